package value

import (
	"slices"
	"strings"

	"entail/api"
	"entail/instance"
	"entail/types"
)

// world is a flat program with what is known of its types.
type world struct {
	tree  api.Tree
	known map[string]description
}

// description is a base type taken apart.
type description struct {
	head         string
	args         []string
	isVariable   bool
	isObject     bool // a class, or an array
	constructors []instance.Constructor
}

// newWorld returns a program and the base of a type in it, whose names that are not declared are variables.
func newWorld(p api.Tree, typ string) (*world, string, api.Errno) {
	if e := types.Check(p, typ, variables(p, typ)); e != api.OK {
		return nil, "", e
	}
	base, e := types.Base(p, typ)
	return &world{p, map[string]description{}}, base, e
}

// variables returns the type variables of a type.
func variables(p api.Tree, typ string) []string {
	var out []string
	t, _ := types.Tree(typ)
	for _, n := range t {
		if n.Op == api.TName && len(n.Kids) == 0 && isVariable(p, n.Text) && !slices.Contains(out, n.Text) {
			out = append(out, n.Text)
		}
	}
	return out
}

// isVariable reports whether the head of a type without arguments is an unqualified name that is not declared.
func isVariable(p api.Tree, head string) bool {
	_, e := types.Decl(p, head)
	return e == api.ErrUnknown && 'A' <= head[0] && head[0] <= 'Z' && !strings.Contains(head, "::")
}

// describe returns what is known of a base type.
func (w *world) describe(typ string) description {
	if _, found := w.known[typ]; !found {
		w.known[typ] = w.takeApart(typ)
	}
	return w.known[typ]
}

func (w *world) takeApart(typ string) description {
	head, args, e := types.Parts(typ)
	out := description{head: head, args: args, isObject: head == "array"}
	if e != api.OK {
		return out
	}
	node, e := types.Decl(w.tree, head)
	switch {
	case e != api.OK:
		out.isVariable = len(args) == 0 && isVariable(w.tree, head)
	case w.tree[node].Op == api.DClass:
		out.isObject = true
	case w.tree[node].Op == api.DDatatype:
		out.constructors = instance.Constructors(w.tree, typ)
	}
	return out
}
