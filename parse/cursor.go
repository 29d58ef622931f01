package parse

import (
	"slices"
	"strings"

	"entail/api"
	"entail/lex"
)

// noKind is the kind of the token behind the last one.
const noKind = -1

// cursor stands at a token of a text. Behind an error it stands at the end, so that no rule goes on.
type cursor struct {
	tokens []lex.Token
	next   int
	end    int // the length of the text
	fault  fault
}

// mark is a token without its place.
type mark struct {
	kind int
	text string
}

// fixed returns the keyword or the sign with a text.
func fixed(text string) mark {
	if 'a' <= text[0] && text[0] <= 'z' {
		return mark{lex.Keyword, text}
	}
	return mark{lex.Sign, text}
}

// token returns the present token.
func (c *cursor) token() lex.Token {
	return c.ahead(0)
}

// ahead returns the token that comes some tokens behind the present one.
func (c *cursor) ahead(n int) lex.Token {
	if c.next+n < len(c.tokens) {
		return c.tokens[c.next+n]
	}
	return lex.Token{Kind: noKind, At: c.end}
}

// take returns the present token and moves on.
func (c *cursor) take() lex.Token {
	t := c.token()
	c.next++
	return t
}

// isAhead reports whether the token that comes some tokens behind the present one is a keyword or a sign.
func (c *cursor) isAhead(n int, text string) bool {
	t := c.ahead(n)
	return mark{t.Kind, t.Text} == fixed(text)
}

// is reports whether the present token is one of some keywords and signs.
func (c *cursor) is(texts ...string) bool {
	return slices.ContainsFunc(texts, func(text string) bool { return c.isAhead(0, text) })
}

// accept moves on if the present token is a keyword or a sign, and reports whether it is.
func (c *cursor) accept(text string) bool {
	if !c.is(text) {
		return false
	}
	c.next++
	return true
}

// expect takes a keyword or a sign, and returns its offset.
func (c *cursor) expect(text string) int {
	at := c.token().At
	if !c.accept(text) {
		c.wrong()
	}
	return at
}

// fail notes an error, unless there was one before.
func (c *cursor) fail(at int, e api.Errno) {
	if c.fault == (fault{}) {
		c.fault = fault{at, e}
	}
	c.next = len(c.tokens)
}

// wrong notes that the present token does not continue the text.
func (c *cursor) wrong() {
	c.fail(c.token().At, api.ErrSyntax)
}

// failed reports whether there was an error.
func (c *cursor) failed() bool {
	return c.fault != fault{}
}

// seesName reports whether the present token is a name of some form.
func (c *cursor) seesName(form func(string) bool) bool {
	t := c.token()
	return t.Kind == lex.Name && form(t.Text)
}

// name takes a name of some form.
func (c *cursor) name(form func(string) bool) lex.Token {
	if !c.seesName(form) {
		c.wrong()
		return lex.Token{}
	}
	return c.take()
}

// closeType takes the sign at the end of the arguments of a type; of two such signs in one token it leaves the second one.
func (c *cursor) closeType() {
	if !c.is(">>") {
		c.expect(">")
		return
	}
	t := c.token()
	c.tokens[c.next] = lex.Token{Kind: lex.Sign, Text: ">", At: t.At + 1}
}

// initial returns the first letter of the last part of a name.
func initial(name string) rune {
	first := ':'
	for _, c := range name {
		if first == ':' || c == ':' {
			first = c
		}
	}
	return first
}

func isPlain(name string) bool {
	return !strings.Contains(name, "::")
}

func isGlobalLower(name string) bool {
	return initial(name) >= 'a'
}

func isGlobalUpper(name string) bool {
	return initial(name) <= 'Z'
}

func isLower(name string) bool {
	return isPlain(name) && isGlobalLower(name)
}

func isUpper(name string) bool {
	return isPlain(name) && isGlobalUpper(name)
}
