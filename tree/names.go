package tree

import (
	"strings"

	"entail/api"
)

// maxReal is the greatest length of an EReal's Text.
const maxReal = 40

func isEmpty(s string) bool {
	return s == ""
}

// isKeyword reports whether a word is one of those of chapter 3.
func isKeyword(s string) bool {
	switch s {
	case "array", "as", "assert", "assume", "bool", "by", "calc", "call", "case", "class", "const",
		"datatype", "decreases", "else", "ensures", "exists", "export", "false", "forall", "fresh",
		"fuel", "function", "ghost", "greatest", "hidden", "if", "import", "in", "int", "invariant",
		"least", "lemma", "map", "match", "method", "modifies", "module", "multiset", "new", "old",
		"opaque", "print", "reads", "real", "refines", "requires", "return", "returns", "reveal",
		"seq", "set", "then", "true", "type", "var", "while", "witness":
		return true
	}
	width, found := strings.CutPrefix(s, "bv")
	return found && isWidth(width)
}

// isName reports whether a string is a word that is not too long, and not a keyword.
func isName(s string) bool {
	for i, c := range s {
		letter := 'a' <= c && c <= 'z' || 'A' <= c && c <= 'Z'
		if !letter && (i == 0 || c != '_' && (c < '0' || c > '9')) {
			return false
		}
	}
	return s != "" && len(s) <= api.MaxName && !isKeyword(s)
}

func isUpper(s string) bool {
	return isName(s) && s[0] <= 'Z'
}

func isLower(s string) bool {
	return isName(s) && s[0] >= 'a'
}

// isGlobal reports whether a string is of a form, or a qualified name whose second part is.
func isGlobal(s string, form func(string) bool) bool {
	module, name, qualified := strings.Cut(s, "::")
	if !qualified {
		return form(s)
	}
	return isUpper(module) && form(name)
}

func isGlobalUpper(s string) bool {
	return isGlobal(s, isUpper)
}

func isGlobalLower(s string) bool {
	return isGlobal(s, isLower)
}

func isQualified(s string) bool {
	return strings.Contains(s, "::")
}

func isDigits(s string) bool {
	for _, c := range s {
		if c < '0' || c > '9' {
			return false
		}
	}
	return s != ""
}

// isNumber reports whether a string is digits without leading zeros, not too many.
func isNumber(s string) bool {
	return isDigits(s) && (s[0] != '0' || s == "0") && len(s) <= api.MaxDigits
}

// isWidth reports whether a string is a number from 1 to 64.
func isWidth(s string) bool {
	if !isNumber(s) || s == "0" {
		return false
	}
	return len(s) == 1 || len(s) == 2 && s <= "64"
}

func isReal(s string) bool {
	whole, decimals, _ := strings.Cut(s, ".")
	if len(s) > maxReal || !isNumber(whole) || !isDigits(decimals) {
		return false
	}
	return decimals == "0" || !strings.HasSuffix(decimals, "0")
}

func isBool(s string) bool {
	return s == "true" || s == "false"
}

func isLabel(s string) bool {
	return s == "" || isLower(s)
}

func isModule(s string) bool {
	return s == "" || isUpper(s)
}

func isRelation(s string) bool {
	switch s {
	case "", "==", "==>", "<=", "<":
		return true
	}
	return false
}

func isMark(s string) bool {
	switch s {
	case "ghost", "opaque", "hidden", "least", "greatest", "lemma":
		return true
	}
	digit, found := strings.CutPrefix(s, "fuel ")
	return found && len(digit) == 1 && isDigits(digit)
}

// isExport reports whether a string is the Text of an MName.
func isExport(s string) bool {
	return isName(strings.TrimPrefix(s, "+"))
}
