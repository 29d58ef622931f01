package lex

import "strings"

func isLetter(c byte) bool {
	return 'a' <= c && c <= 'z' || 'A' <= c && c <= 'Z'
}

func isDigit(c byte) bool {
	return '0' <= c && c <= '9'
}

// isPart reports whether a byte may stand in a word behind its first letter.
func isPart(c byte) bool {
	return isLetter(c) || isDigit(c) || c == '_'
}

// isUpper reports whether a string begins with an upper-case letter.
func isUpper(s string) bool {
	return s != "" && 'A' <= s[0] && s[0] <= 'Z'
}

// isWord reports whether a string is a word of any length.
func isWord(s string) bool {
	for i, c := range s {
		if c > 'z' || !isPart(byte(c)) || i == 0 && !isLetter(byte(c)) {
			return false
		}
	}
	return s != ""
}

// isWidth reports whether a word is the keyword of a type of bit vectors, bv1 to bv64.
func isWidth(s string) bool {
	digits, found := strings.CutPrefix(s, "bv")
	switch {
	case !found || len(digits) < 1 || len(digits) > 2 || countDigits(digits) != len(digits):
		return false
	case len(digits) == 1:
		return digits != "0"
	}
	return "10" <= digits && digits <= "64"
}

// countDigits returns the number of digits at the start of a string.
func countDigits(s string) int {
	return count(s, isDigit)
}

// countParts returns the number of letters, digits and underscores at the start of a string.
func countParts(s string) int {
	return count(s, isPart)
}

// count returns the number of bytes at the start of a string that a condition holds for.
func count(s string, holds func(byte) bool) int {
	n := 0
	for n < len(s) && holds(s[n]) {
		n++
	}
	return n
}
