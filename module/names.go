package module

import (
	"slices"
	"strings"

	"entail/api"
	"entail/common"
	"entail/lex"
	"entail/tree"
	"entail/walk"
)

// colons stand between the module and the name in a qualified name.
const colons = "::"

// exportOf returns what an MName says.
func exportOf(n walk.Place) Export {
	name, revealed := strings.CutPrefix(n.Text, "+")
	return Export{name, revealed}
}

// exports returns what a module exports, in the order of the declarations.
func (m module) exports() []Export {
	named := map[string]Export{}
	for _, export := range common.Transform(m.exported, exportOf) {
		named[export.Name] = export
	}
	var out []Export
	revealed := false // of the last datatype
	for _, d := range m.declarations {
		export := named[d.Text]
		if !m.exporting || d.Op == api.DCons && revealed {
			export = Export{d.Text, true}
		}
		if d.Op == api.DDatatype {
			revealed = export.Revealed
		}
		if export != (Export{}) {
			out = append(out, export)
		}
	}
	return out
}

// entry returns a declaration of a module as it is visible under a name.
func (m module) entry(name string, export Export) Entry {
	return Entry{name, m.qualified(export.Name), m.found[export.Name].Op, export.Revealed}
}

// qualified returns a name with the module in front.
func (m module) qualified(name string) string {
	if m.Text == "" {
		return name
	}
	return m.Text + colons + name
}

// visible returns what is visible in a module.
func (p program) visible(m module) []Entry {
	out := common.Transform(m.declarations, func(d walk.Place) Entry { return m.entry(d.Text, Export{d.Text, true}) })
	for _, need := range m.needs {
		if need.Op == api.MImport {
			other := p.named[need.Text]
			out = append(out, common.Transform(other.exports(), func(x Export) Entry { return other.entry(other.qualified(x.Name), x) })...)
		}
	}
	return out
}

// resolve returns the declaration that a name denotes in a module.
func (p program) resolve(m module, name string) (Entry, api.Errno) {
	of, word, e := Split(name)
	if e != api.OK {
		return Entry{}, e
	}
	if of == "" || of == m.Text {
		return m.own(name, word)
	}
	return p.imported(m, of, word)
}

// own returns a module's own declaration as it is visible under a name.
func (m module) own(name, word string) (Entry, api.Errno) {
	if _, found := m.found[word]; !found {
		return Entry{}, api.ErrUnknown
	}
	return m.entry(name, Export{word, true}), api.OK
}

// imported returns the declaration of another module that a name denotes.
func (p program) imported(m module, of, word string) (Entry, api.Errno) {
	imports := func(need walk.Place) bool { return need.Op == api.MImport && need.Text == of }
	other := p.named[of]
	_, found := other.found[word]
	export, exported := other.shown[word]
	switch {
	case !found || !slices.ContainsFunc(m.needs, imports):
		return Entry{}, api.ErrUnknown
	case !exported:
		return Entry{}, api.ErrExport
	}
	return other.entry(other.qualified(word), export), api.OK
}

// Split returns the module and the name of a qualified name.
func Split(name string) (string, string, api.Errno) {
	for i, c := range name {
		if c != ':' {
			continue
		}
		of, word := name[:i], strings.TrimPrefix(name[i:], colons)
		if !lex.IsName(of) || !lex.IsName(word) {
			return "", "", api.ErrName
		}
		return of, word, api.OK
	}
	if !lex.IsName(name) {
		return "", "", api.ErrName
	}
	return "", name, api.OK
}

// Join returns the qualified name of a module and a name.
func Join(module, name string) (string, api.Errno) {
	switch {
	case module != "" && !lex.IsName(module), !lex.IsName(name):
		return "", api.ErrName
	case module == "":
		return name, api.OK
	}
	return module + colons + name, api.OK
}

// Names returns the names of the declarations of a flat program, in their order.
func Names(p api.Tree) ([]string, api.Errno) {
	if _, e := tree.Check(p); e != api.OK {
		return nil, e
	}
	root := p[len(p)-1]
	if root.Op != api.MProgram || len(root.Kids) != 1 || p[root.Kids[0]].Text != "" {
		return nil, api.ErrKind
	}
	var out []string
	for _, d := range readDeclarations(p, root.Kids[0]).declarations {
		if d.Op != api.DCons {
			out = append(out, d.Text)
		}
	}
	return out, api.OK
}
