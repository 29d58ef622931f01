package parse

import (
	"slices"

	"entail/api"
	"entail/lex"
)

// parser reads parts from tokens.
type parser struct {
	cursor
	depth int // how many expressions, types, patterns and statements are around the present token
	signs map[string]operator
}

func newParser(tokens []lex.Token, end int) *parser {
	p := &parser{cursor: cursor{tokens: tokens, end: end}, signs: map[string]operator{}}
	for _, o := range operators() {
		p.signs[o.text] = o
	}
	return p
}

// rule is how a part is read that begins with a keyword or a sign.
type rule struct {
	begin string
	read  func(*parser) *part
}

// begins reports whether the beginning of one of some rules is there.
func (p *parser) begins(rules []rule) bool {
	return slices.ContainsFunc(rules, func(r rule) bool { return p.is(r.begin) })
}

// ruled reads a part by the first rule whose beginning is there, otherwise in another way.
func (p *parser) ruled(rules []rule, otherwise func() *part) *part {
	for _, r := range rules {
		if p.is(r.begin) {
			return r.read(p)
		}
	}
	return otherwise()
}

// none notes an error where a part has to begin.
func (p *parser) none() *part {
	p.wrong()
	return &part{}
}

// nested reads one of the parts that are inside of each other, unless it is too deep: a token that begins none is wrong at any depth.
func (p *parser) nested(begins func() bool, read func() *part) *part {
	if p.depth == api.MaxDepth {
		if begins() {
			p.fail(p.token().At, api.ErrDeep)
		}
		return p.none()
	}
	p.depth++
	out := read()
	p.depth--
	return out
}

// list reads one or more elements with commas in between.
func list[T any](p *parser, read func() T) []T {
	out := []T{read()}
	for p.accept(",") {
		out = append(out, read())
	}
	return out
}

// listTo reads elements, or none, up to a closing sign.
func listTo[T any](p *parser, end string, read func() T) []T {
	var out []T
	if !p.is(end) {
		out = list(p, read)
	}
	p.expect(end)
	return out
}

// expressionRules returns the rules of the expressions that are no operands.
func expressionRules() []rule {
	return []rule{
		{"if", (*parser).choice},
		{"var", (*parser).let},
		{"forall", (*parser).quantifier},
		{"exists", (*parser).quantifier},
		{"set", (*parser).setOf},
		{"match", (*parser).match},
	}
}

func (p *parser) beginsExpression() bool {
	return p.begins(expressionRules()) || p.beginsOperand()
}

func (p *parser) beginsOperand() bool {
	return p.is("!", "-", "#") || p.beginsPrimary()
}

// expression is the rule Expr.
func (p *parser) expression() *part {
	return p.nested(p.beginsExpression, func() *part {
		return p.ruled(expressionRules(), func() *part { return p.binary(0) })
	})
}

func (p *parser) choice() *part {
	at := p.expect("if")
	condition := p.expression()
	p.expect("then")
	yes := p.expression()
	p.expect("else")
	return newPart(api.EIf, at, "", condition, yes, p.expression())
}

func (p *parser) let() *part {
	at := p.expect("var")
	name := p.name(isLower)
	p.expect(":=")
	value := p.expression()
	p.expect(";")
	return newPart(api.ELet, at, name.Text, value, p.expression())
}

// typed reads a lower name, a colon and a type.
func (p *parser) typed(op int) *part {
	name := p.name(isLower)
	p.expect(":")
	return newPart(op, name.At, name.Text, p.typ())
}

func (p *parser) variable() *part {
	return p.typed(api.QVar)
}

func (p *parser) quantifier() *part {
	op, begin := api.EForall, p.take()
	if begin.Text == "exists" {
		op = api.EExists
	}
	kids := list(p, p.variable)
	for p.is("{") {
		at := p.expect("{")
		kids = append(kids, newPart(api.QTrigger, at, "", list(p, p.expression)...))
		p.expect("}")
	}
	p.expect("::")
	return newPart(op, begin.At, "", append(kids, p.expression())...)
}

func (p *parser) setOf() *part {
	at := p.expect("set")
	variable := p.variable()
	p.expect("|")
	condition := p.expression()
	p.expect("::")
	return newPart(api.ESetOf, at, "", variable, condition, p.expression())
}

func (p *parser) match() *part {
	return p.cases(api.EMatch, api.ECase, p.expression)
}

// cases reads a match whose cases have bodies of some kind.
func (p *parser) cases(op, each int, body func() *part) *part {
	at := p.expect("match")
	kids := []*part{p.expression()}
	p.expect("{")
	for first := true; first || p.is("case"); first = false {
		begin := p.expect("case")
		pattern := p.pattern()
		p.expect("=>")
		kids = append(kids, newPart(each, begin, "", pattern, body()))
	}
	p.expect("}")
	return newPart(op, at, "", kids...)
}
