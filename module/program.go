package module

import (
	"slices"

	"entail/api"
	"entail/tree"
	"entail/walk"
)

// program is a tree of modules.
type program struct {
	tree    api.Tree
	modules []module // in the order of the text
	named   map[string]module
}

// module is a module with what it needs and declares.
type module struct {
	walk.Place
	needs        []walk.Place // the MRefines, then the MImports
	exporting    bool         // whether it has an MExport
	exported     []walk.Place // the MNames
	declarations []walk.Place // each datatype with its constructors directly behind
	found        map[string]walk.Place
	shown        map[string]Export // what it exports
}

func (m module) name() string {
	return m.Text
}

// fault is an error with its node.
type fault struct {
	node  int
	errno api.Errno
}

// first returns what the first check that fails finds. A check is made only if those before it find nothing.
func first(checks ...func() fault) fault {
	for _, check := range checks {
		if f := check(); f.errno != api.OK {
			return f
		}
	}
	return fault{}
}

// read returns a program, or its error.
func read(t api.Tree) (program, fault) {
	if node, e := tree.Check(t); e != api.OK {
		return program{}, fault{node, e}
	}
	root := len(t) - 1
	if t[root].Op != api.MProgram {
		return program{}, fault{root, api.ErrKind}
	}
	p := program{tree: t, named: map[string]module{}}
	for _, kid := range t[root].Kids {
		p.modules = append(p.modules, readDeclarations(t, kid))
	}
	for _, m := range slices.Backward(p.modules) {
		p.named[m.Text] = m
	}
	if f := first(p.checkNeeds, p.checkOrder, p.checkNames); f.errno != api.OK {
		return program{}, f
	}
	return p, fault{}
}

// readModule returns a program and its module with a name.
func readModule(t api.Tree, name string) (program, module, api.Errno) {
	p, f := read(t)
	if f.errno != api.OK {
		return program{}, module{}, f.errno
	}
	m, found := p.named[name]
	if !found {
		return program{}, module{}, api.ErrUnknown
	}
	return p, m, api.OK
}

// readDeclarations returns the module at a node.
func readDeclarations(t api.Tree, node int) module {
	m := module{Place: walk.At(t, node), found: map[string]walk.Place{}, shown: map[string]Export{}}
	for _, kid := range m.Kids {
		switch t[kid].Op {
		case api.MRefines, api.MImport:
			m.needs = append(m.needs, walk.At(t, kid))
		case api.MExport:
			m.exporting = true
			for _, name := range t[kid].Kids {
				m.exported = append(m.exported, walk.At(t, name))
			}
		default:
			m.declarations = append(m.declarations, walk.At(t, kid))
			for _, constructor := range walk.Kids(t, t[kid], api.DCons) {
				m.declarations = append(m.declarations, walk.At(t, constructor))
			}
		}
	}
	for _, d := range slices.Backward(m.declarations) {
		m.found[d.Text] = d
	}
	for _, export := range m.exports() {
		m.shown[export.Name] = export
	}
	return m
}

// checkNeeds returns the error of the names of modules, and of what the modules need.
func (p program) checkNeeds() fault {
	for _, m := range p.modules {
		if p.named[m.Text].Index != m.Index {
			return fault{m.Index, api.ErrTwice}
		}
		seen := map[string]bool{}
		for _, need := range m.needs {
			if e := p.checkNeed(m, need.Text, seen[need.Text]); e != api.OK {
				return fault{need.Index, e}
			}
			seen[need.Text] = true
		}
	}
	return fault{}
}

// checkNeed returns the error of a name that a module needs, and needed before or not.
func (p program) checkNeed(m module, name string, seen bool) api.Errno {
	_, found := p.named[name]
	switch {
	case !found:
		return api.ErrUnknown
	case name == m.Text:
		return api.ErrCycle
	case seen:
		return api.ErrTwice
	}
	return api.OK
}

// order returns the modules that can be ordered, each one after those that it needs.
func (p program) order() []module {
	var out []module
	taken := map[string]bool{}
search:
	for range p.modules {
		for _, m := range p.modules {
			if !taken[m.Text] && m.follows(taken) {
				taken[m.Text] = true
				out = append(out, m)
				continue search
			}
		}
		break search
	}
	return out
}

// follows reports whether all that a module needs is taken.
func (m module) follows(taken map[string]bool) bool {
	return !slices.ContainsFunc(m.needs, func(need walk.Place) bool { return !taken[need.Text] })
}

// checkOrder returns the error of the first module that cannot be ordered.
func (p program) checkOrder() fault {
	taken := map[string]bool{}
	for _, m := range p.order() {
		taken[m.Text] = true
	}
	for _, m := range p.modules {
		if !taken[m.Text] {
			return fault{m.Index, api.ErrCycle}
		}
	}
	return fault{}
}

// checkNames returns the error of the names that the modules declare and export.
func (p program) checkNames() fault {
	for _, m := range p.modules {
		if f := first(m.checkDeclarations, m.checkExports); f.errno != api.OK {
			return f
		}
	}
	return fault{}
}

// checkDeclarations returns the error of a name that is declared twice.
func (m module) checkDeclarations() fault {
	for _, d := range m.declarations {
		if m.found[d.Text].Index != d.Index {
			return fault{d.Index, api.ErrTwice}
		}
	}
	return fault{}
}

// checkExports returns the error of the names that are exported.
func (m module) checkExports() fault {
	seen := map[string]bool{}
	for _, n := range m.exported {
		export := exportOf(n)
		d, found := m.found[export.Name]
		switch {
		case !found:
			return fault{n.Index, api.ErrUnknown}
		case d.Op == api.DCons:
			return fault{n.Index, api.ErrKind}
		case seen[export.Name]:
			return fault{n.Index, api.ErrTwice}
		}
		seen[export.Name] = true
	}
	return fault{}
}
