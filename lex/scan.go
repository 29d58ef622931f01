package lex

import (
	"iter"
	"strings"

	"entail/api"
)

// span is a token with the offset of its end.
type span struct {
	Token
	end int
}

// scanner finds tokens at the start of texts.
type scanner struct {
	keywords map[string]bool
	signs    map[string]bool
}

func newScanner() scanner {
	return scanner{keywords: setOf(Keywords()), signs: setOf(Signs())}
}

func setOf(list []string) map[string]bool {
	set := map[string]bool{}
	for _, s := range list {
		set[s] = true
	}
	return set
}

// rule says how long the token of one kind at the start of a text is (0: there is none), or what is wrong with it.
type rule struct {
	kind int
	size func(scanner, string) (int, api.Errno)
}

// rules returns the rules in the order in which they are tried.
func rules() []rule {
	return []rule{
		{Name, scanner.qualified},
		{Keyword, scanner.keyword},
		{Name, scanner.name},
		{Sign, scanner.underscore},
		{Decimal, scanner.decimal},
		{Number, scanner.number},
		{Sign, scanner.sign},
	}
}

// spans yields the tokens of a text up to the first error, which comes with its offset.
func (s scanner) spans(text string) iter.Seq2[span, api.Errno] {
	return func(yield func(span, api.Errno) bool) {
		at, table := 0, rules()
	reading:
		for {
			gap, e := gapSize(text[at:])
			at += gap
			if e != api.OK {
				yield(span{Token: Token{At: at}}, e)
				return
			}
			if at == len(text) {
				return
			}
			for _, r := range table {
				size, e := r.size(s, text[at:])
				if e != api.OK {
					yield(span{Token: Token{At: at}}, e)
					break reading
				}
				if size > 0 {
					found := span{Token{r.kind, text[at : at+size], at}, at + size}
					if !yield(found, api.OK) {
						break reading
					}
					at = found.end
					continue reading
				}
			}
			yield(span{Token: Token{At: at}}, api.ErrSyntax)
			break reading
		}
	}
}

// gapSize returns the length of the spaces and comments at the start of a text, up to a comment without an end.
func gapSize(text string) (int, api.Errno) {
	at := 0
	for at < len(text) {
		rest := text[at:]
		switch {
		case strings.ContainsRune(" \t\n\r", rune(rest[0])):
			at++
		case strings.HasPrefix(rest, "//"):
			line, _, _ := strings.Cut(rest, "\n")
			at += len(line)
		case strings.HasPrefix(rest, "/*"):
			comment, _, ended := strings.Cut(rest[2:], "*/")
			if !ended {
				return at, api.ErrSyntax
			}
			at += len("/*") + len(comment) + len("*/")
		default:
			return at, api.OK
		}
	}
	return at, api.OK
}

// word returns the word at the start of a text, or an empty string.
func word(text string) string {
	if text == "" || !isLetter(text[0]) {
		return ""
	}
	return text[:countParts(text)]
}

// isKeyword reports whether a word is a keyword.
func (s scanner) isKeyword(text string) bool {
	return s.keywords[text] || isWidth(text)
}

func (s scanner) qualified(text string) (int, api.Errno) {
	module := word(text)
	rest, found := strings.CutPrefix(text[len(module):], "::")
	name := word(rest)
	switch {
	case !isUpper(module) || !found || name == "" || s.isKeyword(name):
		return 0, api.OK
	case len(module) > api.MaxName || len(name) > api.MaxName:
		return 0, api.ErrName
	}
	return len(module) + len("::") + len(name), api.OK
}

func (s scanner) keyword(text string) (int, api.Errno) {
	if w := word(text); s.isKeyword(w) {
		return len(w), api.OK
	}
	return 0, api.OK
}

func (s scanner) name(text string) (int, api.Errno) {
	w := word(text)
	if len(w) > api.MaxName {
		return 0, api.ErrName
	}
	return len(w), api.OK
}

// underscore finds an underscore, whatever follows: no word begins with one, so it is a token by itself.
func (s scanner) underscore(text string) (int, api.Errno) {
	if text[0] == '_' {
		return 1, api.OK
	}
	return 0, api.OK
}

func (s scanner) decimal(text string) (int, api.Errno) {
	whole := countDigits(text)
	rest, found := strings.CutPrefix(text[whole:], ".")
	decimals := countDigits(rest)
	if whole == 0 || !found || decimals == 0 {
		return 0, api.OK
	}
	return checkDigits(text, whole, whole+len(".")+decimals)
}

func (s scanner) number(text string) (int, api.Errno) {
	size := countDigits(text)
	return checkDigits(text, size, size)
}

// checkDigits returns the size of a number or a decimal at the start of a text, or what is wrong with it: leading zeros, or a letter or an underscore that follows.
func checkDigits(text string, whole, size int) (int, api.Errno) {
	if whole > 1 && text[0] == '0' || size > 0 && countParts(text[size:]) > 0 {
		return 0, api.ErrSyntax
	}
	return size, api.OK
}

func (s scanner) sign(text string) (int, api.Errno) {
	for size := min(len("<==>"), len(text)); size > 0; size-- {
		if s.signs[text[:size]] {
			return size, api.OK
		}
	}
	return 0, api.OK
}
