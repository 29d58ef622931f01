package tree

import (
	"iter"
	"slices"
	"strconv"

	"entail/api"
	"entail/common"
	"entail/walk"
)

// Subst returns an expression in which the free occurrences of a variable are replaced by another expression, without capture.
func Subst(t api.Tree, name string, by api.Tree) (api.Tree, api.Errno) {
	if e := checked(t, by); e != api.OK {
		return nil, e
	}
	switch {
	case !isLower(name):
		return nil, api.ErrName
	case classOf(t[len(t)-1].Op) != Expression, classOf(by[len(by)-1].Op) != Expression:
		return nil, api.ErrKind
	}
	at := walk.Scopes(t)
	places := freePlaces(t, at, name)
	size := len(t) + len(places)*(len(by)-1)
	if size > api.MaxNodes {
		return nil, api.ErrMany
	}
	return result(insert(renamed(t, at, places, by), places, by))
}

// freePlaces returns the nodes at which a variable occurs free.
func freePlaces(t api.Tree, at []*walk.Binding, name string) []int {
	var out []int
search:
	for p := range walk.Nodes(t) {
		if occurrence(p.Node) != name {
			continue
		}
		for b := at[p.Index]; b != nil; b = b.Outer {
			if b.Name == name {
				continue search
			}
		}
		out = append(out, p.Index)
	}
	return out
}

// renamed returns a tree in which the binders that would capture a variable of an expression at some places have fresh names.
func renamed(t api.Tree, at []*walk.Binding, places []int, by api.Tree) api.Tree {
	names := freshNames(t, capturing(at, places, freeVariables(by)), append(walk.Moved(t, 0), by...))
	out := walk.Moved(t, 0)
	for i := range out {
		if name, found := names[i]; found {
			out[i].Text = name
		}
		if b := at[i].Find(occurrence(t[i])); b != nil {
			if name, found := names[b.Node]; found {
				out[i].Text = name
			}
		}
	}
	return out
}

// capturing returns the nodes that declare, around one of some places, one of some variables.
func capturing(at []*walk.Binding, places []int, variables []string) map[int]bool {
	out := map[int]bool{}
	for _, place := range places {
		for b := at[place]; b != nil; b = b.Outer {
			if slices.Contains(variables, b.Name) {
				out[b.Node] = true
			}
		}
	}
	return out
}

// freshNames returns new names for the variables that some nodes declare; none of them is a Text in the nodes that are given last.
func freshNames(t api.Tree, declaring map[int]bool, all []api.Node) map[int]string {
	used := map[string]bool{}
	for _, n := range all {
		used[n.Text] = true
	}
	names, next := map[int]string{}, 0
	for binder := range downwards(t) {
		for _, node := range binders(t, binder) {
			if !declaring[node] {
				continue
			}
			for used["v_"+strconv.Itoa(next)] {
				next++
			}
			names[node] = "v_" + strconv.Itoa(next)
			next++
		}
	}
	return names
}

// binders returns the nodes that declare the variables of an expression that binds some.
func binders(t api.Tree, node int) []int {
	switch t[node].Op {
	case api.ELet, api.EForall, api.EExists, api.ESetOf, api.ECase:
		return walk.Declared(t, node)
	}
	return nil
}

// downwards yields the nodes from the root on, each before its children, and these from left to right.
func downwards(t api.Tree) iter.Seq[int] {
	return func(yield func(int) bool) {
		waiting := []int{len(t) - 1}
		for len(waiting) > 0 {
			node := waiting[len(waiting)-1]
			waiting = waiting[:len(waiting)-1]
			if !yield(node) {
				return
			}
			for _, kid := range slices.Backward(t[node].Kids) {
				waiting = append(waiting, kid)
			}
		}
	}
}

// insert returns a tree in which the leaves at some places are replaced by an expression.
func insert(t api.Tree, places []int, by api.Tree) api.Tree {
	var out api.Tree
	now := make([]int, len(t)) // where the nodes are now
	for i, n := range t {
		if slices.Contains(places, i) {
			out = append(out, walk.Moved(by, len(out))...)
		} else {
			n.Kids = common.Transform(n.Kids, func(kid int) int { return now[kid] })
			out = append(out, n)
		}
		now[i] = len(out) - 1
	}
	return out
}
