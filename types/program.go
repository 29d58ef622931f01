package types

import (
	"iter"
	"slices"

	"entail/api"
	"entail/common"
	"entail/tree"
)

// program is a flat program with the first declaration of each name.
type program struct {
	tree  api.Tree
	named map[string]declaration
}

// declaration is a declaration with its node.
type declaration struct {
	api.Node
	node int
}

// flat returns a flat program.
func flat(t api.Tree) (program, api.Errno) {
	if _, e := tree.Check(t); e != api.OK {
		return program{}, e
	}
	root := t[len(t)-1]
	if root.Op != api.MProgram || len(root.Kids) != 1 {
		return program{}, api.ErrKind
	}
	module := declaration{Node: t[root.Kids[0]]}
	out := program{t, map[string]declaration{}}
	if module.Text != "" || len(out.kids(module, api.MRefines, api.MImport, api.MExport)) > 0 {
		return program{}, api.ErrKind
	}
	for d := range out.declarations() {
		if _, found := out.named[d.Text]; !found {
			out.named[d.Text] = d
		}
	}
	return out, api.OK
}

// kids returns the children of some Ops.
func (p program) kids(d declaration, ops ...int) []declaration {
	var out []declaration
	for _, kid := range d.Kids {
		if slices.Contains(ops, p.tree[kid].Op) {
			out = append(out, declaration{p.tree[kid], kid})
		}
	}
	return out
}

// declarations yields the declarations and the constructors of the module, by node.
func (p program) declarations() iter.Seq[declaration] {
	return func(yield func(declaration) bool) {
		for node, n := range p.tree {
			switch n.Op {
			case api.DCons, api.DDatatype, api.DSubset, api.DClass, api.DConst, api.DFunction, api.DMethod:
				if !yield(declaration{n, node}) {
					return
				}
			}
		}
	}
}

// findType returns the declaration of a type.
func (p program) findType(name string) (declaration, bool) {
	d, found := p.named[name]
	switch d.Op {
	case api.DDatatype, api.DSubset, api.DClass:
		return d, found
	}
	return declaration{}, false
}

// typeOf returns the type that is the first child of a declaration.
func (p program) typeOf(d declaration) shape {
	return shapeAt(p.tree, d.Kids[0])
}

// typed returns a name with its declared type.
func (p program) typed(d declaration) api.Bound {
	return api.Bound{Name: d.Text, Sort: p.typeOf(d).text()}
}

// names returns the texts of some declarations.
func names(list []declaration) []string {
	return common.Transform(list, func(d declaration) string { return d.Text })
}

// Decl returns the node of the declaration of a global name in a flat program; for a constructor that of its DCons.
func Decl(p api.Tree, name string) (int, api.Errno) {
	f, e := flat(p)
	if e != api.OK {
		return 0, e
	}
	d, found := f.named[name]
	if !found {
		return 0, api.ErrUnknown
	}
	return d.node, api.OK
}

// Check returns the first error of a type in a flat program with some type variables, or OK.
func Check(p api.Tree, s string, vars []string) api.Errno {
	_, _, e := checked(p, s, vars)
	return e
}

// checked returns a program and a type that is well-formed in it.
func checked(p api.Tree, s string, vars []string) (program, shape, api.Errno) {
	f, t, e := given(p, s)
	if e := common.First(e, checkVariables(vars)); e != api.OK {
		return program{}, shape{}, e
	}
	return f, t, f.check(t, vars)
}

// given returns a flat program and a type.
func given(p api.Tree, s string) (program, shape, api.Errno) {
	f, programError := flat(p)
	t, typeError := readShape(s)
	return f, t, common.First(programError, typeError)
}

// check returns the error of a type, from the outside to the inside.
func (p program) check(s shape, vars []string) api.Errno {
	variable := slices.Contains(vars, s.head)
	if variable && len(s.args) == 0 {
		return api.OK
	}
	if _, found := builtinOf(s.head); !found {
		d, found := p.findType(s.head)
		switch {
		case !found && !variable:
			return api.ErrUnknown
		case !found || len(s.args) != len(p.kids(d, api.DTypeParam)):
			return api.ErrArgs
		}
	}
	return common.First(common.Transform(s.args, func(arg shape) api.Errno { return p.check(arg, vars) })...)
}

// Fields returns the fields of a class.
func Fields(p api.Tree, s string) ([]Field, api.Errno) {
	f, t, e := given(p, s)
	if e != api.OK {
		return nil, e
	}
	d, found := f.findType(t.head)
	switch {
	case !found:
		return nil, api.ErrUnknown
	case d.Op != api.DClass:
		return nil, api.ErrKind
	}
	return f.fields(d), api.OK
}

// fields returns the fields of a class.
func (p program) fields(class declaration) []Field {
	return common.Transform(p.kids(class, api.DField, api.DGhostField), func(d declaration) Field {
		return Field{d.Text, p.typeOf(d).text(), d.Op == api.DGhostField}
	})
}

// Signature returns the signature of a function or a method.
func Signature(p api.Tree, name string) (Callable, api.Errno) {
	f, e := flat(p)
	if e != api.OK {
		return Callable{}, e
	}
	d, found := f.named[name]
	switch {
	case !found:
		return Callable{}, api.ErrUnknown
	case d.Op != api.DFunction && d.Op != api.DMethod:
		return Callable{}, api.ErrKind
	}
	params := f.kids(d, api.DParam, api.DGhostParam)
	return Callable{
		Name:    name,
		Method:  d.Op == api.DMethod,
		Marks:   names(f.kids(d, api.DMark)),
		Vars:    names(f.kids(d, api.DTypeParam)),
		Params:  common.Transform(params, f.typed),
		Ghosts:  common.Transform(params, func(d declaration) bool { return d.Op == api.DGhostParam }),
		Results: common.Transform(f.kids(d, api.DOut, api.DResult), f.typed),
	}, api.OK
}
