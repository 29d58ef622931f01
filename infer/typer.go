package infer

import (
	"entail/api"
	"entail/tree"
	"entail/types"
	"entail/walk"
)

// typer finds the types of the nodes of a tree.
type typer struct {
	*world
	tree      api.Tree
	own       *texts // of the types in the tree
	parents   []int
	scopes    []*walk.Binding
	given     map[string]*typ // the variables of an expression
	rules     [api.Ops]rule
	parts     [api.Ops]part
	types     []*typ
	found     []string // the strings of the types
	instances []Instance
	flows     []Flow
}

// newTyper returns a typer for a tree of a program.
func newTyper(w *world, own *texts) *typer {
	t := own.tree
	return &typer{
		world: w, tree: t, own: own, parents: walk.Parents(t), scopes: walk.Scopes(t), given: map[string]*typ{},
		rules: rules(), parts: parts(), types: make([]*typ, len(t)), found: make([]string, len(t)),
	}
}

// typed returns a program with its types, or the first error.
func typed(p api.Tree) (*typer, fault) {
	w, e := readWorld(p)
	if e != api.OK {
		return &typer{}, at(0, e)
	}
	t := newTyper(w, w.texts)
	for d := range walk.Nodes(p) {
		if class, _ := tree.Class(d.Op); class != tree.Declaration {
			continue
		}
		if f := t.declaration(d); !f.isNone() {
			return &typer{}, f
		}
	}
	return t, fault{}
}

// declaration finds the types of a declaration.
func (t *typer) declaration(d walk.Place) fault {
	if f := t.check(d.Index, t.params(d)); !f.isNone() {
		return f
	}
	return t.part(d.Index)
}

// check returns the error of the types that stand in the subtree of a node.
func (t *typer) check(node int, params []string) fault {
	sound := map[string]bool{}
	for i := walk.Start(t.tree, node); i <= node; i++ {
		if !isType(t.tree[i].Op) || t.parents[i] >= 0 && isType(t.tree[t.parents[i]].Op) {
			continue
		}
		text := t.own.of(i)
		if sound[text] {
			continue
		}
		if e := types.Check(t.skeleton, text, params); e != api.OK {
			return at(i, e)
		}
		if d := t.read(text); d.errno != api.OK {
			return at(i, d.errno)
		}
		sound[text] = true
	}
	return fault{}
}

func isType(op int) bool {
	class, _ := tree.Class(op)
	return class == tree.Type
}

// typedExpression returns an expression with its types, or the first error.
func typedExpression(p, e api.Tree, vars []api.Bound) (*typer, fault) {
	w, errno := readWorld(p)
	if errno != api.OK {
		return &typer{}, at(0, errno)
	}
	if errno := isExpression(e); errno != api.OK {
		return &typer{}, at(0, errno)
	}
	t := newTyper(w, newTexts(e))
	if errno := t.variables(vars); errno != api.OK {
		return &typer{}, at(0, errno)
	}
	root := len(e) - 1
	if f := t.check(root, nil); !f.isNone() {
		return &typer{}, f
	}
	if f := t.unit([]int{root}); !f.isNone() {
		return &typer{}, f
	}
	return t, fault{}
}

// isExpression returns the error of a tree that should be an expression.
func isExpression(e api.Tree) api.Errno {
	if _, errno := tree.Check(e); errno != api.OK {
		return errno
	}
	if class, _ := tree.Class(e[len(e)-1].Op); class != tree.Expression {
		return api.ErrKind
	}
	return api.OK
}

// maxVariables is the greatest number of variables that are given.
const maxVariables = 100

// variables notes the variables of an expression.
func (t *typer) variables(vars []api.Bound) api.Errno {
	if len(vars) > maxVariables {
		return api.ErrMany
	}
	for _, v := range vars {
		if !isLower(v.Name) {
			return api.ErrName
		}
		if _, found := t.given[v.Name]; found {
			return api.ErrTwice
		}
		if e := types.Check(t.skeleton, v.Sort, nil); e != api.OK {
			return e
		}
		d := t.read(v.Sort)
		if d.errno != api.OK {
			return d.errno
		}
		t.given[v.Name] = d.base
	}
	return api.OK
}

// isLower reports whether a string is a lower name, as a variable of a pattern has it.
func isLower(name string) bool {
	_, e := tree.Check(api.Tree{{Op: api.PVar, Text: name}})
	return e == api.OK
}

// declaredText returns the type of a variable that a node declares: the declared one, or the one that was found.
func (t *typer) declaredText(node int) string {
	n := t.tree[node]
	switch n.Op {
	case api.PVar:
		return t.found[node]
	case api.ELet:
		return t.found[n.Kids[0]]
	}
	return t.own.of(n.Kids[0])
}

// declaredAt returns the declared type of a variable, and whether it has one.
func (t *typer) declaredAt(b *walk.Binding) (declared, bool) {
	if b == nil || t.tree[b.Node].Op == api.PVar || t.tree[b.Node].Op == api.ELet {
		return declared{}, false
	}
	return t.readHere(t.tree[b.Node].Kids[0]), true
}

// readHere returns the declared type at a node of the tree.
func (t *typer) readHere(node int) declared {
	return t.read(t.own.of(node))
}

// local returns the type of a local variable.
func (t *typer) local(b *walk.Binding) *typ {
	if d, found := t.declaredAt(b); found {
		return d.base
	}
	if n := t.tree[b.Node]; n.Op == api.ELet {
		return t.types[n.Kids[0]]
	}
	return t.types[b.Node]
}
