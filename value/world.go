package value

import (
	"slices"
	"strings"

	"entail/api"
	"entail/common"
	"entail/types"
)

// world is a flat program with what is known of its types.
type world struct {
	tree  api.Tree
	known map[string]description
}

// description is a base type taken apart.
type description struct {
	head         string
	args         []string
	isVariable   bool
	isObject     bool // a class, or an array
	constructors []constructor
}

// constructor is a constructor of a datatype with the base types of its fields; a type without a base is empty.
type constructor struct {
	name   string
	fields []string
}

// newWorld returns a program and the base of a type in it, whose names that are not declared are variables.
func newWorld(p api.Tree, typ string) (*world, string, api.Errno) {
	if e := types.Check(p, typ, variables(p, typ)); e != api.OK {
		return nil, "", e
	}
	base, e := types.Base(p, typ)
	return &world{p, map[string]description{}}, base, e
}

// variables returns the type variables of a type.
func variables(p api.Tree, typ string) []string {
	var out []string
	t, _ := types.Tree(typ)
	for _, n := range t {
		if n.Op == api.TName && len(n.Kids) == 0 && isVariable(p, n.Text) && !slices.Contains(out, n.Text) {
			out = append(out, n.Text)
		}
	}
	return out
}

// isVariable reports whether the head of a type without arguments is an unqualified name that is not declared.
func isVariable(p api.Tree, head string) bool {
	_, e := types.Decl(p, head)
	return e == api.ErrUnknown && 'A' <= head[0] && head[0] <= 'Z' && !strings.Contains(head, "::")
}

// describe returns what is known of a base type.
func (w *world) describe(typ string) description {
	if _, found := w.known[typ]; !found {
		w.known[typ] = w.takeApart(typ)
	}
	return w.known[typ]
}

func (w *world) takeApart(typ string) description {
	head, args, e := types.Parts(typ)
	out := description{head: head, args: args, isObject: head == "array"}
	if e != api.OK {
		return out
	}
	node, e := types.Decl(w.tree, head)
	switch {
	case e != api.OK:
		out.isVariable = len(args) == 0 && isVariable(w.tree, head)
	case w.tree[node].Op == api.DClass:
		out.isObject = true
	case w.tree[node].Op == api.DDatatype:
		out.constructors = w.constructors(node, typ)
	}
	return out
}

// constructors returns the constructors of an instance of a datatype: none if it is not well-formed.
func (w *world) constructors(node int, typ string) []constructor {
	list, e := types.Constructors(w.tree, typ)
	if e == api.ErrLong {
		list = w.oneByOne(node, typ)
	}
	return common.Transform(list, func(c api.Cons) constructor {
		return constructor{c.Name, common.Transform(c.Fields, func(f api.Bound) string { return w.base(f.Sort) })}
	})
}

// base returns the base of a type, or an empty string if it has none.
func (w *world) base(typ string) string {
	base, _ := types.Base(w.tree, typ)
	return base
}

// oneByOne returns the constructors of an instance with fields whose types are too long: these types are empty, since they have no base.
func (w *world) oneByOne(node int, typ string) []api.Cons {
	_, args, _ := types.Parts(typ)
	var bindings []types.Binding
	var out []api.Cons
	for _, kid := range w.tree[node].Kids {
		n := w.tree[kid]
		if n.Op == api.DTypeParam {
			bindings = append(bindings, types.Binding{Name: n.Text, Type: args[len(bindings)]})
			continue
		}
		fields := common.Transform(n.Kids, func(field int) api.Bound {
			declared, _ := types.Of(w.tree, w.tree[field].Kids[0])
			typ, _ := types.Subst(declared, bindings)
			return api.Bound{Name: w.tree[field].Text, Sort: typ}
		})
		out = append(out, api.Cons{Name: n.Text, Fields: fields})
	}
	return out
}
