package term

import (
	"slices"

	"entail/api"
)

// writer makes a term node by node. What it makes is not used if there are too many nodes; then the rest need not be written.
type writer struct {
	term api.Terms
}

// isFull reports whether there are too many nodes.
func (w *writer) isFull() bool {
	return len(w.term) > api.MaxTerm
}

// add appends a node with some children, and returns its index.
func (w *writer) add(n api.Term, kids []int) int {
	n.Vars, n.Kids = slices.Clone(n.Vars), kids
	w.term = append(w.term, n)
	return len(w.term) - 1
}

// copy appends a term, and returns the index of its root.
func (w *writer) copy(t api.Terms) int {
	w.term = append(w.term, moved(t, len(w.term))...)
	return len(w.term) - 1
}

// finished returns the term, or the error of its size.
func (w *writer) finished() (api.Terms, api.Errno) {
	switch {
	case w.isFull():
		return nil, api.ErrLarge
	case depth(w.term) > api.MaxDepth:
		return nil, api.ErrDeep
	}
	return w.term, api.OK
}

// depth returns the number of nodes on the longest path from the root to a leaf.
func depth(t api.Terms) int {
	below := make([]int, len(t))
	for p := range nodes(t) {
		for i := range len(p.Kids) {
			below[p.index] = max(below[p.index], below[p.Kids[i]])
		}
		below[p.index]++
	}
	return below[len(t)-1]
}
