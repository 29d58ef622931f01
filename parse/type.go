package parse

import (
	"strings"

	"entail/api"
	"entail/lex"
)

// typeRules returns the rules of the types that are no names and no bit vectors.
func typeRules() []rule {
	return []rule{
		{"bool", func(p *parser) *part { return newPart(api.TBool, p.take().At, "") }},
		{"int", func(p *parser) *part { return newPart(api.TInt, p.take().At, "") }},
		{"real", func(p *parser) *part { return newPart(api.TReal, p.take().At, "") }},
		{"seq", func(p *parser) *part { return p.collection(api.TSeq) }},
		{"set", func(p *parser) *part { return p.collection(api.TSet) }},
		{"multiset", func(p *parser) *part { return p.collection(api.TMulti) }},
		{"array", func(p *parser) *part { return p.collection(api.TArray) }},
		{"map", (*parser).mapType},
	}
}

func (p *parser) beginsType() bool {
	return p.begins(typeRules()) || p.isBits() || p.seesName(isGlobalUpper)
}

// isBits reports whether the present token is a type of bit vectors.
func (p *parser) isBits() bool {
	t := p.token()
	return t.Kind == lex.Keyword && strings.HasPrefix(t.Text, "bv")
}

// typ is the rule Type.
func (p *parser) typ() *part {
	return p.nested(p.beginsType, func() *part {
		if p.isBits() {
			t := p.take()
			return newPart(api.TBits, t.At, strings.TrimPrefix(t.Text, "bv"))
		}
		return p.ruled(typeRules(), p.namedType)
	})
}

func (p *parser) collection(op int) *part {
	at := p.take().At
	p.expect("<")
	out := newPart(op, at, "", p.typ())
	p.closeType()
	return out
}

func (p *parser) mapType() *part {
	at := p.expect("map")
	p.expect("<")
	key := p.typ()
	p.expect(",")
	out := newPart(api.TMap, at, "", key, p.typ())
	p.closeType()
	return out
}

// namedType reads the name of a type, with its arguments.
func (p *parser) namedType() *part {
	name := p.name(isGlobalUpper)
	var kids []*part
	if p.accept("<") {
		kids = list(p, p.typ)
		p.closeType()
	}
	return newPart(api.TName, name.At, name.Text, kids...)
}

// patternRules returns the rules of the patterns that begin with a keyword or a sign.
func patternRules() []rule {
	return []rule{
		{"_", func(p *parser) *part { return newPart(api.PWild, p.take().At, "") }},
		{"true", func(p *parser) *part { return literal(p.truth()) }},
		{"false", func(p *parser) *part { return literal(p.truth()) }},
		{"-", (*parser).negative},
	}
}

func (p *parser) beginsPattern() bool {
	return p.begins(patternRules()) || p.seesPatternName() || p.token().Kind == lex.Number
}

func (p *parser) seesPatternName() bool {
	return p.seesName(isLower) || p.seesName(isGlobalUpper)
}

// pattern is the rule Pattern.
func (p *parser) pattern() *part {
	return p.nested(p.beginsPattern, func() *part {
		if p.seesPatternName() {
			return p.namedPattern()
		}
		return p.ruled(patternRules(), func() *part { return literal(p.number()) })
	})
}

// literal returns the pattern of a literal.
func literal(value *part) *part {
	return newPart(api.PLit, value.at, "", value)
}

// number reads a number.
func (p *parser) number() *part {
	if p.token().Kind != lex.Number {
		return p.none()
	}
	return p.leaf(api.EInt)
}

func (p *parser) negative() *part {
	at := p.expect("-")
	return literal(newPart(api.ENeg, at, "", p.number()))
}

// namedPattern reads a variable, or a constructor with its patterns.
func (p *parser) namedPattern() *part {
	if p.seesName(isLower) {
		return p.leaf(api.PVar)
	}
	t := p.take()
	var kids []*part
	if p.accept("(") {
		kids = listTo(p, ")", p.pattern)
	}
	return newPart(api.PCons, t.At, t.Text, kids...)
}
