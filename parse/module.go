package parse

import (
	"entail/api"
)

// program is the rule Program.
func (p *parser) program() *part {
	if !p.is("module") {
		return newPart(api.MProgram, 0, "", newPart(api.MModule, 0, "", p.contents()...))
	}
	var kids []*part
	for p.is("module") {
		kids = append(kids, p.module())
	}
	return newPart(api.MProgram, 0, "", kids...)
}

func (p *parser) module() *part {
	at := p.expect("module")
	name := p.name(isUpper)
	var kids []*part
	if p.is("refines") {
		kids = append(kids, p.reference(api.MRefines))
	}
	p.expect("{")
	kids = append(kids, p.contents()...)
	p.expect("}")
	return newPart(api.MModule, at, name.Text, kids...)
}

// reference reads a word and the name of a module.
func (p *parser) reference(op int) *part {
	at := p.take().At
	return newPart(op, at, p.name(isUpper).Text)
}

// contents reads what is inside of a module.
func (p *parser) contents() []*part {
	var out []*part
	for p.is("import") {
		out = append(out, p.reference(api.MImport))
		p.expect(";")
	}
	if p.is("export") {
		at := p.expect("export")
		out = append(out, newPart(api.MExport, at, "", listTo(p, ";", p.exported)...))
	}
	for p.beginsDeclaration() {
		out = append(out, p.declaration())
	}
	return out
}

// exported reads a name that is exported, with a plus sign in front if it is revealed.
func (p *parser) exported() *part {
	begin := p.token()
	if p.accept("+") {
		return newPart(api.MName, begin.At, "+"+p.name(isPlain).Text)
	}
	return newPart(api.MName, begin.At, p.name(isPlain).Text)
}
