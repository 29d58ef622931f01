package lex

import (
	"strings"

	"entail/api"
	"entail/common"
)

// Join returns a text with the given tokens.
func Join(l []Token) (string, api.Errno) {
	if len(l) > maxTokens {
		return "", api.ErrMany
	}
	s, tokens := newScanner(), withoutPlaces(l)
	if e := common.First(common.Transform(tokens, s.checkToken)...); e != api.OK {
		return "", e
	}
	var out strings.Builder
	for i, token := range tokens {
		if i > 0 && s.spaced(tokens[i-1], token) {
			out.WriteByte(' ')
		}
		out.WriteString(token.Text)
		if out.Len() > api.MaxText {
			return "", api.ErrLong
		}
	}
	return out.String(), api.OK
}

// withoutPlaces returns the tokens with the offset 0.
func withoutPlaces(l []Token) []Token {
	out := make([]Token, len(l))
	copy(out, l)
	for i := range out {
		out[i].At = 0
	}
	return out
}

// checkToken returns the error of a token at the offset 0.
func (s scanner) checkToken(token Token) api.Errno {
	switch {
	case token.Kind < Name || token.Kind > Sign:
		return api.ErrKind
	case len(token.Text) > api.MaxText:
		return api.ErrForm
	}
	for found, e := range s.spans(token.Text) {
		if e == api.OK && found.Token == token && found.end == len(token.Text) {
			return api.OK
		}
		break
	}
	return api.ErrForm
}

// spaced reports whether there is a space between two tokens.
func (s scanner) spaced(a, b Token) bool {
	switch {
	case isDot(a) && isNumeric(b), isNumeric(a) && isDot(b):
		return true // two such pairs could become a decimal
	case isOneOf(a, "([#!."), isOneOf(b, ")],;.?["):
		return s.merge(a, b)
	}
	return true
}

// merge reports whether two tokens without a space between them would not be read as these two.
func (s scanner) merge(a, b Token) bool {
	b.At = len(a.Text)
	want, pair, n := [2]Token{a, b}, [2]Token{}, 0
	for found, e := range s.spans(a.Text + b.Text) {
		if e != api.OK || n == len(pair) {
			return true
		}
		pair[n] = found.Token
		n++
	}
	return pair != want
}

// isOneOf reports whether a token is one of some signs of one byte.
func isOneOf(token Token, signs string) bool {
	return token.Kind == Sign && len(token.Text) == 1 && strings.Contains(signs, token.Text)
}

func isDot(token Token) bool {
	return isOneOf(token, ".")
}

func isNumeric(token Token) bool {
	return token.Kind == Number || token.Kind == Decimal
}
