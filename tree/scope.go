package tree

import (
	"slices"

	"entail/api"
	"entail/common"
	"entail/walk"
)

// occurrence returns the local variable that occurs at a node itself, or an empty string.
func occurrence(n api.Node) string {
	switch n.Op {
	case api.EVar:
		if !isQualified(n.Text) {
			return n.Text
		}
	case api.SNew, api.SNewArray, api.SChoose:
		return n.Text
	}
	return ""
}

// global returns the global name that is used at a node itself, or an empty string.
func global(n api.Node) string {
	switch n.Op {
	case api.TName, api.ECall, api.ECons, api.EIs, api.PCons, api.SCall, api.SReveal:
		return n.Text
	case api.EVar:
		if isQualified(n.Text) {
			return n.Text
		}
	}
	return ""
}

// each returns the names that a function finds at the nodes, each once.
func each(t api.Tree, find func(walk.Place) string) []string {
	var out []string
	seen := map[string]bool{"": true}
	for p := range walk.Nodes(t) {
		if name := find(p); !seen[name] {
			seen[name] = true
			out = append(out, name)
		}
	}
	return out
}

// freeVariables returns the free local variables of a syntax tree.
func freeVariables(t api.Tree) []string {
	at := walk.Scopes(t)
	return each(t, func(p walk.Place) string {
		name := occurrence(p.Node)
		if at[p.Index].Find(name) != nil {
			return ""
		}
		return name
	})
}

// Free returns the free local variables of a tree, each once, in the order of their first occurrence.
func Free(t api.Tree) ([]string, api.Errno) {
	if e := checked(t); e != api.OK {
		return nil, e
	}
	return freeVariables(t), api.OK
}

// Globals returns the global names that a tree uses, each once, in the order of their first occurrence.
func Globals(t api.Tree) ([]string, api.Errno) {
	if e := checked(t); e != api.OK {
		return nil, e
	}
	return each(t, func(p walk.Place) string { return global(p.Node) }), api.OK
}

// Bound returns the local variables that are in scope at a node.
func Bound(t api.Tree, node int) ([]string, api.Errno) {
	if e := common.First(checked(t), exists(t, node)); e != api.OK {
		return nil, e
	}
	bound := walk.Scopes(t)[node].All()
	return common.Transform(bound, func(b *walk.Binding) string { return b.Name }), api.OK
}

// Rename returns a tree in which the free occurrences of a variable have another name.
func Rename(t api.Tree, from, to string) (api.Tree, api.Errno) {
	if e := checked(t); e != api.OK {
		return nil, e
	}
	switch {
	case !isLower(from) || !isLower(to):
		return nil, api.ErrName
	case from != to && slices.ContainsFunc(t, func(n api.Node) bool { return n.Text == to }):
		return nil, api.ErrTwice
	}
	at, out := walk.Scopes(t), walk.Moved(t, 0)
	for i := range out {
		if occurrence(t[i]) == from && at[i].Find(from) == nil {
			out[i].Text = to
		}
	}
	return result(out)
}
