package parse

import (
	"iter"

	"entail/api"
)

// binary reads an expression of a level, or of a higher one.
func (p *parser) binary(level int) *part {
	if level == prefix {
		return p.unary()
	}
	switch levels := operands(level); {
	case levels == sides{level, level + 1}:
		return p.leftToRight(level)
	case levels == sides{level + 1, level}:
		return p.implication(level)
	}
	return p.chain()
}

// taken is an operator with its offset.
type taken struct {
	operator
	at int
}

// operatorsOf takes the operators of a level, as long as one is there.
func (p *parser) operatorsOf(level int) iter.Seq[taken] {
	return func(yield func(taken) bool) {
		for {
			o, found := p.signs[p.token().Text]
			if !found || o.level != level || !yield(taken{o, p.take().At}) {
				return
			}
		}
	}
}

func (p *parser) leftToRight(level int) *part {
	out := p.binary(level + 1)
	for o := range p.operatorsOf(level) {
		out = o.join(o.at, out, p.binary(level+1))
	}
	return out
}

func (p *parser) implication(level int) *part {
	left := p.binary(level + 1)
	if !p.is("==>") {
		return left
	}
	at := p.expect("==>")
	right := p.nested(p.beginsOperand, func() *part { return p.binary(level) })
	return newPart(api.EImp, at, "", left, right)
}

// chain reads operands that are compared: a comparison, or the conjunction of those of neighbours.
func (p *parser) chain() *part {
	left := p.binary(relates + 1)
	out, chained := left, true
comparing:
	for count := 0; ; count++ {
		o, size := p.relation()
		at := p.token().At
		switch {
		case size == 0:
			break comparing
		case count > 0 && !(chained && o.chains()):
			p.wrong()
			break comparing
		}
		p.next += size
		right := p.binary(relates + 1)
		comparison := o.join(at, left, right)
		left, chained = right, o.chains()
		if count == 0 {
			out = comparison
			continue
		}
		out = newPart(api.EAnd, at, "", out, comparison)
		if out.size > api.MaxNodes {
			p.fail(at, api.ErrMany)
		}
	}
	return out
}

// relation returns the operator of a comparison that is there, and how many tokens it has: none, if there is no such operator.
func (p *parser) relation() (operator, int) {
	if p.is("!") && p.isAhead(1, "in") {
		return p.signs[notIn], 2
	}
	if o := p.signs[p.token().Text]; o.level == relates {
		return o, 1
	}
	return operator{}, 0
}

// unary reads signs in front of an operand.
func (p *parser) unary() *part {
	op := 0
	switch p.token().Text {
	case "!":
		op = api.ENot
	case "-":
		op = api.ENeg
	case "#":
		op = api.ECard
	default:
		return p.postfix()
	}
	at := p.take().At
	return newPart(op, at, "", p.nested(p.beginsOperand, p.unary))
}

func (p *parser) postfix() *part {
	out := p.primary()
	for {
		switch {
		case p.is("."):
			out = p.member(out)
		case p.is("["):
			out = p.element(out)
		default:
			return out
		}
	}
}

// member reads a field of an object, or a question for its constructor.
func (p *parser) member(object *part) *part {
	at := p.expect(".")
	if p.seesName(isLower) {
		return newPart(api.EField, at, p.take().Text, object)
	}
	name := p.name(isGlobalUpper)
	p.expect("?")
	return newPart(api.EIs, at, name.Text, object)
}

// element reads what follows an object in brackets.
func (p *parser) element(object *part) *part {
	at, op := p.expect("["), api.EIndex
	kids := []*part{object, p.expression()}
	if p.accept("..") {
		op = api.ESlice
	} else if p.accept(":=") {
		op = api.EUpdate
	}
	if op != api.EIndex {
		kids = append(kids, p.expression())
	}
	p.expect("]")
	return newPart(op, at, "", kids...)
}
