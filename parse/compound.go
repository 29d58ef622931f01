package parse

import (
	"cmp"
	"slices"

	"entail/api"
)

// ifOrAlternatives reads a statement that begins with `if`: a left brace begins alternatives then, not a set.
func (p *parser) ifOrAlternatives() *part {
	if !p.isAhead(1, "{") {
		return p.conditional()
	}
	at := p.expect("if")
	p.expect("{")
	var kids []*part
	for first := true; first || p.is("case"); first = false {
		begin := p.expect("case")
		condition := p.expression()
		p.expect("=>")
		kids = append(kids, newPart(api.SGuard, begin, "", condition, p.block()))
	}
	p.expect("}")
	return newPart(api.SAlt, at, "", kids...)
}

// conditional is the rule IfStmt. Its condition does not begin with a set, also behind else, where no alternatives may stand.
func (p *parser) conditional() *part {
	at := p.expect("if")
	if p.is("{") {
		p.wrong()
	}
	kids := []*part{p.expression()}
	kids = append(kids, p.block())
	if p.accept("else") {
		if p.is("if") {
			kids = append(kids, p.nested(p.beginsStatement, p.conditional))
		} else {
			kids = append(kids, p.block())
		}
	}
	return newPart(api.SIf, at, "", kids...)
}

func (p *parser) loop() *part {
	at := p.expect("while")
	kids := []*part{p.expression()}
	clauses := p.clauses("invariant", "decreases", "modifies")
	kids = append(kids, grouped(clauses, api.CInvariant, api.CDecreases, api.CModifies)...)
	return newPart(api.SWhile, at, "", append(kids, p.block())...)
}

func (p *parser) matchStatement() *part {
	return p.cases(api.SMatch, api.SCase, p.block)
}

// calculation reads a calc: the relation and the hint behind an expression belong to its step.
func (p *parser) calculation() *part {
	at := p.expect("calc")
	p.expect("{")
	var kids []*part
	begin, expression := p.step()
	for p.is("==", "==>", "<=", "<") {
		relation := p.take().Text
		parts := []*part{expression}
		if p.is("{") {
			parts = append(parts, p.block())
		}
		kids = append(kids, newPart(api.SStep, begin, relation, parts...))
		begin, expression = p.step()
	}
	p.expect("}")
	return newPart(api.SCalc, at, "", append(kids, newPart(api.SStep, begin, "", expression))...)
}

// step reads an expression of a calc, and returns its offset, too.
func (p *parser) step() (int, *part) {
	at := p.token().At
	out := p.expression()
	p.expect(";")
	return at, out
}

func (p *parser) forall() *part {
	at := p.expect("forall")
	kids := list(p, p.variable)
	p.expect("|")
	kids = append(kids, p.expression())
	begin := p.expect("ensures")
	kids = append(kids, newPart(api.CEnsures, begin, "", p.expression()))
	return newPart(api.SForall, at, "", append(kids, p.block())...)
}

// clauseOp returns the Op of the clause that begins with a word.
func clauseOp(word string) int {
	words := [...]string{"requires", "ensures", "invariant", "decreases", "reads", "modifies"}
	return api.CRequires + slices.Index(words[:], word)
}

// clauses reads clauses that begin with some words, in the order of the text.
func (p *parser) clauses(words ...string) []*part {
	var out []*part
	for p.is(words...) {
		begin := p.take()
		op := clauseOp(begin.Text)
		switch {
		case op != api.CDecreases:
			out = append(out, newPart(op, begin.At, "", p.expression()))
		case slices.ContainsFunc(out, func(c *part) bool { return c.op == op }):
			p.fail(begin.At, api.ErrTwice)
		default:
			out = append(out, newPart(op, begin.At, "", list(p, p.expression)...))
		}
	}
	return out
}

// grouped returns a copy of clauses with those of each Op together, in the order of the Ops.
func grouped(clauses []*part, ops ...int) []*part {
	out := make([]*part, len(clauses))
	copy(out, clauses)
	slices.SortStableFunc(out, func(a, b *part) int {
		return cmp.Compare(slices.Index(ops, a.op), slices.Index(ops, b.op))
	})
	return out
}
