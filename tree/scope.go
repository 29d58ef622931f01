package tree

import (
	"slices"

	"entail/api"
)

// binding is a bound variable: its name, the node that declares it, and the binding around it.
type binding struct {
	name  string
	node  int
	outer *binding
}

// find returns the innermost binding of a name, or nil.
func (b *binding) find(name string) *binding {
	for b != nil && b.name != name {
		b = b.outer
	}
	return b
}

// scoper finds out what is bound at each node.
type scoper struct {
	tree api.Tree
	at   []*binding
}

// scopes returns the innermost binding at each node. A parent has a greater index than its children, so that it comes first here.
func scopes(t api.Tree) []*binding {
	s := scoper{t, make([]*binding, len(t))}
	for node := len(t) - 1; node >= 0; node-- {
		s.children(node)
	}
	return s.at
}

// children notes what is bound at the children of a node.
func (s scoper) children(node int) {
	switch s.tree[node].Op {
	case api.ELet, api.ECase, api.SCase:
		s.second(node)
	case api.EForall, api.EExists, api.ESetOf, api.SForall:
		s.quantifier(node)
	case api.SBlock:
		s.block(node)
	case api.DSubset:
		s.subset(node)
	case api.DFunction, api.DMethod:
		s.callable(node)
	default:
		for _, kid := range s.tree[node].Kids {
			s.at[kid] = s.at[node]
		}
	}
}

// declare returns the binding of the variables of some nodes, one inside of the other.
func (s scoper) declare(outer *binding, declaring []int) *binding {
	for _, node := range declaring {
		outer = &binding{s.tree[node].Text, node, outer}
	}
	return outer
}

// second treats a node that binds variables in its second child.
func (s scoper) second(node int) {
	kids := s.tree[node].Kids
	s.at[kids[0]] = s.at[node]
	s.at[kids[1]] = s.declare(s.at[node], declared(s.tree, node))
}

func (s scoper) quantifier(node int) {
	inner := s.declare(s.at[node], declared(s.tree, node))
	for _, kid := range s.tree[node].Kids {
		if s.tree[kid].Op == api.QVar {
			s.at[kid] = s.at[node]
		} else {
			s.at[kid] = inner
		}
	}
}

func (s scoper) block(node int) {
	scope := s.at[node]
	for _, kid := range s.tree[node].Kids {
		s.at[kid] = scope
		if op := s.tree[kid].Op; op == api.SVar || op == api.SGhostVar {
			scope = s.declare(scope, []int{kid})
		}
	}
}

func (s scoper) subset(node int) {
	kids := s.tree[node].Kids
	s.at[kids[0]], s.at[kids[2]] = s.at[node], s.at[node]
	s.at[kids[1]] = s.declare(s.at[node], kids[:1])
}

func (s scoper) callable(node int) {
	params := s.declare(s.at[node], kidsOf(s.tree, s.tree[node], api.DParam, api.DGhostParam))
	outs := s.declare(params, kidsOf(s.tree, s.tree[node], api.DOut))
	for _, kid := range s.tree[node].Kids {
		switch op := s.tree[kid].Op; {
		case op == api.CEnsures, classOf(op) == Expression, classOf(op) == Statement:
			s.at[kid] = outs
		case classOf(op) == Clause:
			s.at[kid] = params
		default:
			s.at[kid] = s.at[node]
		}
	}
}

// kidsOf returns the children of some Ops.
func kidsOf(t api.Tree, n api.Node, ops ...int) []int {
	var out []int
	for _, kid := range n.Kids {
		if slices.Contains(ops, t[kid].Op) {
			out = append(out, kid)
		}
	}
	return out
}

// declared returns the nodes that declare the variables of an ELet, a quantifier, an ESetOf, an SForall or a case.
func declared(t api.Tree, node int) []int {
	switch t[node].Op {
	case api.ELet:
		return []int{node}
	case api.ECase, api.SCase:
		var out []int
		pattern := t[node].Kids[0]
		for i := start(t, pattern); i <= pattern; i++ {
			if t[i].Op == api.PVar {
				out = append(out, i)
			}
		}
		return out
	}
	return kidsOf(t, t[node], api.QVar)
}

// occurrence returns the local variable that occurs at a node itself, or an empty string.
func occurrence(n api.Node) string {
	switch n.Op {
	case api.EVar:
		if !isQualified(n.Text) {
			return n.Text
		}
	case api.SNew, api.SNewArray, api.SChoose:
		return n.Text
	}
	return ""
}

// global returns the global name that is used at a node itself, or an empty string.
func global(n api.Node) string {
	switch n.Op {
	case api.TName, api.ECall, api.ECons, api.EIs, api.PCons, api.SCall, api.SReveal:
		return n.Text
	case api.EVar:
		if isQualified(n.Text) {
			return n.Text
		}
	}
	return ""
}

// each returns the names that a function finds at the nodes, each once.
func each(t api.Tree, find func(place) string) []string {
	var out []string
	seen := map[string]bool{"": true}
	for p := range nodes(t) {
		if name := find(p); !seen[name] {
			seen[name] = true
			out = append(out, name)
		}
	}
	return out
}

// freeVariables returns the free local variables of a syntax tree.
func freeVariables(t api.Tree) []string {
	at := scopes(t)
	return each(t, func(p place) string {
		name := occurrence(p.Node)
		if at[p.index].find(name) != nil {
			return ""
		}
		return name
	})
}

// Free returns the free local variables of a tree, each once, in the order of their first occurrence.
func Free(t api.Tree) ([]string, api.Errno) {
	if e := checked(t); e != api.OK {
		return nil, e
	}
	return freeVariables(t), api.OK
}

// Globals returns the global names that a tree uses, each once, in the order of their first occurrence.
func Globals(t api.Tree) ([]string, api.Errno) {
	if e := checked(t); e != api.OK {
		return nil, e
	}
	return each(t, func(p place) string { return global(p.Node) }), api.OK
}

// Bound returns the local variables that are in scope at a node.
func Bound(t api.Tree, node int) ([]string, api.Errno) {
	if e := firstOf(checked(t), exists(t, node)); e != api.OK {
		return nil, e
	}
	var out []string
	for b := scopes(t)[node]; b != nil; b = b.outer {
		if !slices.Contains(out, b.name) {
			out = append(out, b.name)
		}
	}
	slices.Reverse(out)
	return out, api.OK
}

// Rename returns a tree in which the free occurrences of a variable have another name.
func Rename(t api.Tree, from, to string) (api.Tree, api.Errno) {
	if e := checked(t); e != api.OK {
		return nil, e
	}
	switch {
	case !isLower(from) || !isLower(to):
		return nil, api.ErrName
	case from != to && slices.ContainsFunc(t, func(n api.Node) bool { return n.Text == to }):
		return nil, api.ErrTwice
	}
	at, out := scopes(t), moved(t, 0)
	for i := range out {
		if occurrence(t[i]) == from && at[i].find(from) == nil {
			out[i].Text = to
		}
	}
	return result(out)
}
