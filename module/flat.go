package module

import (
	"iter"
	"slices"

	"entail/api"
	"entail/common"
	"entail/tree"
	"entail/walk"
)

// The sorts of global names.
const (
	noName = iota
	typeName
	constantName
	functionName
	constructorName
	methodName
	sorts
)

// sortOf returns the sort of the name that a node uses.
func sortOf(op int) int {
	switch op {
	case api.TName:
		return typeName
	case api.EVar:
		return constantName
	case api.ECall, api.SReveal:
		return functionName
	case api.ECons, api.EIs, api.PCons:
		return constructorName
	case api.SCall:
		return methodName
	}
	return noName
}

// kinds are the Ops of declarations that a name may denote.
type kinds [3]int

// role says what the names of a sort become.
type role struct {
	kinds kinds
	stays func(*flattener, walk.Place) bool // whether the name is a local one
}

// roles returns what the names of each sort become.
func roles() [sorts]role {
	never := func(*flattener, walk.Place) bool { return false }
	return [sorts]role{
		typeName:        {kinds{api.DDatatype, api.DSubset, api.DClass}, (*flattener).isTypeParameter},
		constantName:    {kinds{api.DConst}, (*flattener).isVariable},
		functionName:    {kinds{api.DFunction}, never},
		constructorName: {kinds{api.DCons}, never},
		methodName:      {kinds{api.DMethod}, never},
	}
}

// flattener makes a flat program.
type flattener struct {
	modules  program
	roles    [sorts]role
	scopes   []*walk.Binding
	repeated map[int]bool   // the nodes that declare a name again beside another one
	params   []string       // the type parameters in scope
	full     map[int]string // what the names at nodes become
}

// newFlattener returns what makes a program flat.
func newFlattener(p program) *flattener {
	f := &flattener{modules: p, roles: roles(), scopes: walk.Scopes(p.tree), repeated: map[int]bool{}, full: map[int]string{}}
	for node := range p.tree {
		seen := map[string]bool{}
		for _, declaring := range beside(p.tree, node) {
			name := p.tree[declaring].Text
			f.repeated[declaring] = seen[name]
			seen[name] = true
		}
	}
	return f
}

// beside returns the nodes that declare, for a node, names that have to differ.
func beside(t api.Tree, node int) []int {
	switch t[node].Op {
	case api.DDatatype, api.DFunction, api.DMethod:
		return walk.Kids(t, t[node], api.DTypeParam, api.DParam, api.DGhostParam, api.DOut)
	case api.EForall, api.EExists, api.SForall, api.ECase, api.SCase:
		return walk.Declared(t, node)
	}
	return nil
}

// refinement returns the error of the first module that refines another one.
func (f *flattener) refinement() fault {
	for p := range walk.Nodes(f.modules.tree) {
		if p.Op == api.MRefines {
			return fault{p.Index, api.ErrRefine}
		}
	}
	return fault{}
}

// declared is a declaration with its module.
type declared struct {
	walk.Place
	of module
}

// declarations yields the declarations of some modules, and what is in scope in each of them is noted before.
func (f *flattener) declarations(modules []module) iter.Seq[declared] {
	return func(yield func(declared) bool) {
		for _, m := range modules {
			for _, d := range m.declarations {
				if d.Op == api.DCons {
					continue
				}
				t := f.modules.tree
				f.params = common.Transform(walk.Kids(t, d.Node, api.DTypeParam), func(kid int) string { return t[kid].Text })
				if !yield(declared{d, m}) {
					return
				}
			}
		}
	}
}

// names returns the error of the first name, and notes what the names become.
func (f *flattener) names() fault {
	for d := range f.declarations(f.modules.modules) {
		for node := walk.Start(f.modules.tree, d.Index); node <= d.Index; node++ {
			if e := f.name(d.of, walk.At(f.modules.tree, node)); e != api.OK {
				return fault{node, e}
			}
		}
	}
	return fault{}
}

// name returns the error of the name at a node.
func (f *flattener) name(m module, p walk.Place) api.Errno {
	switch p.Op {
	case api.DDatatype, api.DCons, api.DSubset, api.DClass, api.DConst, api.DFunction, api.DMethod:
		f.full[p.Index] = m.qualified(p.Text)
	case api.DTypeParam:
		return f.twice(f.repeated[p.Index])
	case api.DParam, api.DGhostParam, api.DOut, api.SVar, api.SGhostVar, api.ELet, api.QVar, api.PVar:
		return f.twice(f.repeated[p.Index] || f.isVariable(p))
	}
	r := f.roles[sortOf(p.Op)]
	if r.kinds == (kinds{}) || r.stays(f, p) {
		return api.OK
	}
	entry, e := f.modules.resolve(m, p.Text)
	switch {
	case e != api.OK:
		return e
	case !slices.Contains(r.kinds[:], entry.Op):
		return api.ErrKind
	}
	f.full[p.Index] = entry.Full
	return api.OK
}

func (f *flattener) twice(is bool) api.Errno {
	if is {
		return api.ErrTwice
	}
	return api.OK
}

// isTypeParameter reports whether a name is that of a type parameter in scope.
func (f *flattener) isTypeParameter(p walk.Place) bool {
	return slices.Contains(f.params, p.Text)
}

// isVariable reports whether a name is that of a local variable in scope.
func (f *flattener) isVariable(p walk.Place) bool {
	return f.scopes[p.Index].Find(p.Text) != nil
}

// program returns the flat program.
func (f *flattener) program() (api.Tree, api.Errno) {
	var out api.Tree
	root := api.Node{Op: api.MModule}
	for d := range f.declarations(f.modules.order()) {
		out = f.copied(out, d)
		root.Kids = append(root.Kids, len(out)-1)
	}
	out = append(out, root, api.Node{Op: api.MProgram, Kids: []int{len(out)}})
	if _, e := tree.Check(out); e != api.OK {
		return nil, e
	}
	return out, api.OK
}

// copied appends a declaration with its new names.
func (f *flattener) copied(out api.Tree, d declared) api.Tree {
	t := f.modules.tree
	from := walk.Start(t, d.Index)
	part := walk.Moved(t[from:d.Index+1], len(out)-from)
	for i := range part {
		if name, found := f.full[from+i]; found {
			part[i].Text = name
		}
	}
	export, exported := d.of.shown[d.Text]
	if d.Op != api.DFunction || !exported || export.Revealed {
		return append(out, part...)
	}
	return hidden(out, part, len(walk.Kids(t, d.Node, api.DMark)))
}

// hidden appends a function with a further mark behind its marks, which are its first nodes.
func hidden(out, function api.Tree, marks int) api.Tree {
	root := function[len(function)-1]
	mark := len(out) + marks
	out = append(out, function[:marks]...)
	out = append(out, api.Node{Op: api.DMark, Text: "hidden", At: root.At})
	for _, n := range function[marks:] {
		n.Kids = common.Transform(n.Kids, func(kid int) int {
			if kid < mark {
				return kid
			}
			return kid + 1
		})
		out = append(out, n)
	}
	last := &out[len(out)-1]
	last.Kids = slices.Insert(last.Kids, marks, mark)
	return out
}

// closure returns the names of a module and of all that it needs, directly or through others.
func (p program) closure(m module) map[string]bool {
	out := map[string]bool{m.Text: true}
	waiting := []module{m}
	for len(waiting) > 0 {
		next := waiting[0]
		waiting = waiting[1:]
		for _, need := range next.needs {
			if !out[need.Text] {
				out[need.Text] = true
				waiting = append(waiting, p.named[need.Text])
			}
		}
	}
	return out
}

// only returns the program with some of its modules.
func (p program) only(names map[string]bool) api.Tree {
	var out api.Tree
	root := p.tree[len(p.tree)-1]
	root.Kids = nil
	for _, m := range p.modules {
		if !names[m.Text] {
			continue
		}
		from := walk.Start(p.tree, m.Index)
		out = append(out, walk.Moved(p.tree[from:m.Index+1], len(out)-from)...)
		root.Kids = append(root.Kids, len(out)-1)
	}
	return append(out, root)
}
