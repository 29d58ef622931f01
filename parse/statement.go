package parse

import "entail/api"

// statementRules returns the rules of the statements that begin with a keyword, and of blocks. A left brace begins a block, never a set.
func statementRules() []rule {
	return []rule{
		{"{", (*parser).block},
		{"ghost", (*parser).local},
		{"var", (*parser).local},
		{"call", (*parser).plainCall},
		{"if", (*parser).ifOrAlternatives},
		{"while", (*parser).loop},
		{"match", (*parser).matchStatement},
		{"assert", (*parser).assertion},
		{"assume", (*parser).worded},
		{"print", (*parser).worded},
		{"return", (*parser).ending},
		{"reveal", (*parser).reveal},
		{"calc", (*parser).calculation},
		{"forall", (*parser).forall},
	}
}

func (p *parser) beginsStatement() bool {
	return p.begins(statementRules()) || p.beginsPrimary()
}

// statement is the rule Stmt.
func (p *parser) statement() *part {
	return p.nested(p.beginsStatement, func() *part {
		return p.ruled(statementRules(), p.targeted)
	})
}

func (p *parser) block() *part {
	at := p.expect("{")
	var kids []*part
	for !p.is("}") && !p.failed() {
		kids = append(kids, p.statement())
	}
	p.expect("}")
	return newPart(api.SBlock, at, "", kids...)
}

// local reads the declaration of a variable.
func (p *parser) local() *part {
	at, op := p.token().At, api.SVar
	if p.accept("ghost") {
		op = api.SGhostVar
	}
	p.expect("var")
	name := p.name(isLower)
	p.expect(":")
	kids := []*part{p.typ()}
	if p.accept(":=") {
		kids = append(kids, p.expression())
	}
	p.expect(";")
	return newPart(op, at, name.Text, kids...)
}

// targeted reads a statement that begins with what is assigned.
func (p *parser) targeted() *part {
	if p.seesName(isLower) {
		switch {
		case p.isAhead(1, ","):
			return p.callTo(list(p, p.target))
		case p.isAhead(1, ":|"):
			return p.chosen()
		case p.isAhead(1, ":="):
			return p.assigned()
		}
	}
	at := p.token().At
	target := p.postfix()
	if target.op != api.EField && target.op != api.EIndex {
		return p.none()
	}
	p.expect(":=")
	return p.assignment(at, target)
}

// target reads a variable that is assigned.
func (p *parser) target() *part {
	name := p.name(isLower)
	return newPart(api.EVar, name.At, name.Text)
}

func (p *parser) chosen() *part {
	name := p.take()
	p.expect(":|")
	out := newPart(api.SChoose, name.At, name.Text, p.expression())
	p.expect(";")
	return out
}

// assigned reads a statement that assigns something to one variable.
func (p *parser) assigned() *part {
	target := p.target()
	switch {
	case p.isAhead(1, "call"):
		return p.callTo([]*part{target})
	case p.isAhead(1, "new"):
		return p.creation(target)
	}
	p.expect(":=")
	return p.assignment(target.at, target)
}

// assignment reads what is assigned to a target: a value, or any one.
func (p *parser) assignment(at int, target *part) *part {
	if p.accept("*") {
		p.expect(";")
		return newPart(api.SHavoc, at, "", target)
	}
	out := newPart(api.SAssign, at, "", target, p.expression())
	p.expect(";")
	return out
}

func (p *parser) plainCall() *part {
	return p.call(p.token().At, nil)
}

// callTo reads a call behind its targets.
func (p *parser) callTo(targets []*part) *part {
	p.expect(":=")
	return p.call(targets[0].at, targets)
}

// call reads a call from its keyword on.
func (p *parser) call(at int, targets []*part) *part {
	p.expect("call")
	name := p.name(isGlobalLower)
	kids := append([]*part{newPart(api.SLhs, at, "", targets...)}, p.arguments()...)
	p.expect(";")
	return newPart(api.SCall, at, name.Text, kids...)
}

// arguments reads expressions in parentheses.
func (p *parser) arguments() []*part {
	p.expect("(")
	return listTo(p, ")", p.expression)
}

// creation reads the creation of an object or an array behind the variable.
func (p *parser) creation(target *part) *part {
	p.expect(":=")
	p.expect("new")
	var out *part
	if p.is("array") {
		out = p.newArray(target)
	} else {
		class := p.namedType()
		out = newPart(api.SNew, target.at, target.text, append([]*part{class}, p.arguments()...)...)
	}
	p.expect(";")
	return out
}

func (p *parser) newArray(target *part) *part {
	p.expect("array")
	p.expect("<")
	element := p.typ()
	p.closeType()
	p.expect("(")
	length := p.expression()
	p.expect(",")
	out := newPart(api.SNewArray, target.at, target.text, element, length, p.expression())
	p.expect(")")
	return out
}

// worded reads an assumption, or what is printed.
func (p *parser) worded() *part {
	op, begin := api.SAssume, p.take()
	if begin.Text == "print" {
		op = api.SPrint
	}
	out := newPart(op, begin.At, "", p.expression())
	p.expect(";")
	return out
}

func (p *parser) ending() *part {
	at := p.expect("return")
	p.expect(";")
	return newPart(api.SReturn, at, "")
}

func (p *parser) reveal() *part {
	at := p.expect("reveal")
	name := p.name(isGlobalLower)
	p.expect(";")
	return newPart(api.SReveal, at, name.Text)
}

func (p *parser) assertion() *part {
	at, label := p.expect("assert"), ""
	if p.seesName(isLower) && p.isAhead(1, ":") {
		label = p.take().Text
		p.expect(":")
	}
	kids := []*part{p.expression()}
	if p.accept("by") {
		kids = append(kids, p.block())
	} else {
		p.expect(";")
	}
	return newPart(api.SAssert, at, label, kids...)
}
