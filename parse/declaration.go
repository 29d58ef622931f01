package parse

import (
	"entail/api"
	"entail/lex"
)

// declarationRules returns the rules of declarations; those of functions and methods may begin with marks.
func declarationRules() []rule {
	return []rule{
		{"datatype", (*parser).datatype},
		{"type", (*parser).subset},
		{"class", (*parser).class},
		{"const", (*parser).constant},
	}
}

// markWords are the marks of one word.
func markWords() []string {
	return []string{"ghost", "opaque", "hidden", "least", "greatest", "lemma"}
}

func (p *parser) beginsDeclaration() bool {
	return p.begins(declarationRules()) || p.is(markWords()...) || p.is("fuel", "function", "method")
}

// declaration is the rule Decl.
func (p *parser) declaration() *part {
	return p.ruled(declarationRules(), p.callable)
}

func (p *parser) datatype() *part {
	at := p.expect("datatype")
	name := p.name(isGlobalUpper)
	kids := p.typeParameters()
	p.expect("=")
	kids = append(kids, p.constructor())
	for p.accept("|") {
		kids = append(kids, p.constructor())
	}
	return newPart(api.DDatatype, at, name.Text, kids...)
}

// typeParameters reads type parameters, or nothing.
func (p *parser) typeParameters() []*part {
	if !p.accept("<") {
		return nil
	}
	out := list(p, func() *part {
		name := p.name(isUpper)
		return newPart(api.DTypeParam, name.At, name.Text)
	})
	p.expect(">")
	return out
}

func (p *parser) constructor() *part {
	name := p.name(isGlobalUpper)
	var kids []*part
	if p.accept("(") {
		kids = listTo(p, ")", p.field)
	}
	return newPart(api.DCons, name.At, name.Text, kids...)
}

func (p *parser) field() *part {
	return p.typed(api.DField)
}

func (p *parser) subset() *part {
	at := p.expect("type")
	name := p.name(isGlobalUpper)
	p.expect("=")
	variable := p.typed(api.DParam)
	p.expect("|")
	condition := p.expression()
	p.expect("witness")
	return newPart(api.DSubset, at, name.Text, variable, condition, p.expression())
}

func (p *parser) class() *part {
	at := p.expect("class")
	name := p.name(isGlobalUpper)
	p.expect("{")
	var kids []*part
	for p.is("ghost", "var") {
		kids = append(kids, p.classField())
	}
	p.expect("}")
	return newPart(api.DClass, at, name.Text, kids...)
}

func (p *parser) classField() *part {
	at := p.token().At
	isGhost := p.accept("ghost")
	p.expect("var")
	out := p.field()
	p.expect(";")
	if isGhost {
		return newPart(api.DGhostField, at, out.text, out.kids...)
	}
	return out
}

func (p *parser) constant() *part {
	at := p.expect("const")
	name := p.name(isGlobalLower)
	p.expect(":")
	declared := p.typ()
	p.expect(":=")
	out := newPart(api.DConst, at, name.Text, declared, p.expression())
	p.expect(";")
	return out
}

// callable reads a function or a method with its marks.
func (p *parser) callable() *part {
	at, marks := p.token().At, p.marks()
	if p.accept("function") {
		return p.function(at, marks)
	}
	p.expect("method")
	return p.method(at, marks)
}

func (p *parser) marks() []*part {
	var out []*part
	for {
		begin := p.token()
		switch {
		case p.is(markWords()...):
			out = append(out, newPart(api.DMark, begin.At, p.take().Text))
		case p.accept("fuel"):
			out = append(out, newPart(api.DMark, begin.At, "fuel "+p.digit()))
		default:
			return out
		}
	}
}

// digit reads a number of one digit.
func (p *parser) digit() string {
	t := p.token()
	if t.Kind != lex.Number || len(t.Text) != 1 {
		p.wrong()
	}
	p.next++
	return t.Text
}

// head reads the name, the type parameters and the parameters of a function or a method, and returns the name and the children with the marks in front.
func (p *parser) head(marks []*part) (string, []*part) {
	name := p.name(isGlobalLower)
	kids := append(marks, p.typeParameters()...)
	p.expect("(")
	return name.Text, append(kids, listTo(p, ")", p.parameter)...)
}

func (p *parser) parameter() *part {
	at := p.token().At
	if p.accept("ghost") {
		named := p.typed(api.DParam)
		return newPart(api.DGhostParam, at, named.text, named.kids...)
	}
	return p.typed(api.DParam)
}

// contract reads the clauses of a function or a method.
func (p *parser) contract() []*part {
	clauses := p.clauses("requires", "ensures", "reads", "modifies", "decreases")
	return grouped(clauses, api.CRequires, api.CReads, api.CModifies, api.CEnsures, api.CDecreases)
}

func (p *parser) function(at int, marks []*part) *part {
	name, kids := p.head(marks)
	p.expect(":")
	result := p.typ()
	kids = append(kids, newPart(api.DResult, result.at, "", result))
	kids = append(kids, p.contract()...)
	if p.accept("{") {
		kids = append(kids, p.expression())
		p.expect("}")
	}
	return newPart(api.DFunction, at, name, kids...)
}

func (p *parser) method(at int, marks []*part) *part {
	name, kids := p.head(marks)
	if p.accept("returns") {
		p.expect("(")
		kids = append(kids, list(p, func() *part { return p.typed(api.DOut) })...)
		p.expect(")")
	}
	kids = append(kids, p.contract()...)
	if p.is("{") {
		kids = append(kids, p.block())
	}
	return newPart(api.DMethod, at, name, kids...)
}
