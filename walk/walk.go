// Package walk goes through the nodes of syntax trees: their order, their children, and what is in scope at them. Its functions take trees that tree.Check accepts, and do not check them again.
package walk

import (
	"iter"
	"slices"

	"entail/api"
	"entail/common"
)

// Place is a node with its index.
type Place struct {
	api.Node
	Index int
}

// Nodes yields the nodes of a tree with their indices.
func Nodes(t api.Tree) iter.Seq[Place] {
	return func(yield func(Place) bool) {
		for i, node := range t {
			if !yield(Place{node, i}) {
				return
			}
		}
	}
}

// At returns a node with its index.
func At(t api.Tree, node int) Place {
	return Place{t[node], node}
}

// Start returns the first node of the subtree of a node.
func Start(t api.Tree, node int) int {
	for len(t[node].Kids) > 0 {
		node = t[node].Kids[0]
	}
	return node
}

// Kids returns the children of some Ops.
func Kids(t api.Tree, n api.Node, ops ...int) []int {
	var out []int
	for _, kid := range n.Kids {
		if slices.Contains(ops, t[kid].Op) {
			out = append(out, kid)
		}
	}
	return out
}

// Parents returns the parent of each node, and -1 for the root.
func Parents(t api.Tree) []int {
	out := make([]int, len(t))
	for i := range out {
		out[i] = -1
	}
	for p := range Nodes(t) {
		for _, kid := range p.Kids {
			out[kid] = p.Index
		}
	}
	return out
}

// Moved returns a copy of some nodes in which the indices of the children are greater by a number.
func Moved(t api.Tree, by int) api.Tree {
	out := make(api.Tree, len(t))
	copy(out, t)
	for i := range out {
		out[i].Kids = common.Transform(t[i].Kids, func(kid int) int { return kid + by })
	}
	return out
}

// Sub returns the subtree of a node.
func Sub(t api.Tree, node int) api.Tree {
	from := Start(t, node)
	return Moved(t[from:node+1], -from)
}
