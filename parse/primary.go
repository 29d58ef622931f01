package parse

import (
	"entail/api"
	"entail/lex"
)

// primaryRules returns the rules of the primary expressions that begin with a keyword or a sign.
func primaryRules() []rule {
	return []rule{
		{"true", (*parser).truth},
		{"false", (*parser).truth},
		{"(", (*parser).parentheses},
		{"[", (*parser).sequence},
		{"{", (*parser).set},
		{"multiset", (*parser).multiset},
		{"map", (*parser).mapping},
		{"old", (*parser).old},
		{"fresh", (*parser).fresh},
	}
}

func (p *parser) beginsPrimary() bool {
	switch p.token().Kind {
	case lex.Name, lex.Number, lex.Decimal:
		return true
	}
	return p.begins(primaryRules())
}

func (p *parser) primary() *part {
	switch p.token().Kind {
	case lex.Name:
		return p.named()
	case lex.Number:
		return p.leaf(api.EInt)
	case lex.Decimal:
		return p.leaf(api.EReal)
	}
	return p.ruled(primaryRules(), p.none)
}

// leaf reads a token whose text is that of the node.
func (p *parser) leaf(op int) *part {
	t := p.take()
	return newPart(op, t.At, t.Text)
}

func (p *parser) truth() *part {
	return p.leaf(api.EBool)
}

// named reads a variable, a call, or a constructor.
func (p *parser) named() *part {
	t := p.take()
	called := p.accept("(")
	var kids []*part
	if called {
		kids = listTo(p, ")", p.expression)
	}
	op := api.EVar
	if isGlobalUpper(t.Text) {
		op = api.ECons
	} else if called {
		op = api.ECall
	}
	return newPart(op, t.At, t.Text, kids...)
}

// parentheses reads an expression in parentheses, or a conversion.
func (p *parser) parentheses() *part {
	at := p.expect("(")
	out := p.expression()
	if p.accept("as") {
		out = newPart(api.EAs, at, "", out, p.typ())
	}
	p.expect(")")
	return out
}

func (p *parser) sequence() *part {
	at := p.expect("[")
	return newPart(api.ESeq, at, "", listTo(p, "]", p.expression)...)
}

func (p *parser) set() *part {
	at := p.expect("{")
	return newPart(api.ESet, at, "", listTo(p, "}", p.expression)...)
}

func (p *parser) multiset() *part {
	at := p.expect("multiset")
	p.expect("{")
	return newPart(api.EMulti, at, "", listTo(p, "}", p.expression)...)
}

func (p *parser) mapping() *part {
	at := p.expect("map")
	p.expect("[")
	var kids []*part
	for _, entry := range listTo(p, "]", p.entry) {
		kids = append(kids, entry[:]...)
	}
	return newPart(api.EMap, at, "", kids...)
}

// entry reads a key and its value.
func (p *parser) entry() [2]*part {
	key := p.expression()
	p.expect(":=")
	return [2]*part{key, p.expression()}
}

func (p *parser) old() *part {
	return p.applied("old", api.EOld)
}

func (p *parser) fresh() *part {
	return p.applied("fresh", api.EFresh)
}

// applied reads a word with an expression in parentheses.
func (p *parser) applied(word string, op int) *part {
	at := p.expect(word)
	p.expect("(")
	out := newPart(op, at, "", p.expression())
	p.expect(")")
	return out
}
