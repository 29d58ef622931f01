package term

import (
	"strings"

	"entail/api"
)

// printer writes the text of a term.
type printer struct {
	term  api.Terms
	forms [api.TermOps]form
	out   strings.Builder
}

// Print returns the text of a term.
func Print(t api.Terms) (string, api.Errno) {
	if e := CheckForm(t); e != api.OK {
		return "", e
	}
	p := &printer{term: t, forms: forms()}
	p.node(len(t) - 1)
	if p.out.Len() > api.MaxText {
		return "", api.ErrLong
	}
	return p.out.String(), api.OK
}

// node writes the subterm at a node. Behind the limit nothing more need be written.
func (p *printer) node(node int) {
	n := p.term[node]
	switch {
	case p.out.Len() > api.MaxText:
		return
	case n.Op == api.LTrue, n.Op == api.LFalse:
		p.out.WriteString(p.forms[n.Op].head)
	case n.Op == api.LVar:
		p.out.WriteString("?" + n.Name)
	case n.Op == api.LNum, n.Op == api.LApp && len(n.Kids) == 0:
		p.out.WriteString(n.Name)
	default:
		p.compound(n)
	}
}

// compound writes a node in parentheses.
func (p *printer) compound(n api.Term) {
	p.out.WriteString("(" + p.forms[n.Op].head + n.Name) // an application has no other head than its name
	if isQuantifier(n.Op) {
		p.out.WriteString(" (" + strings.Join(boundTexts(n.Vars), " ") + ")")
	}
	for _, kid := range n.Kids {
		p.out.WriteString(" ")
		p.node(kid)
	}
	p.out.WriteString(")")
}

// boundTexts returns the texts of variables with their sorts.
func boundTexts(vars []api.Bound) []string {
	var out []string
	for _, v := range vars {
		out = append(out, "("+v.Name+" "+v.Sort+")")
	}
	return out
}
