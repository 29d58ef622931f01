package parse

import "entail/api"

// part is a node above its subtrees. A part is never changed, so that it may stand at several places, as the operands of a chain do.
type part struct {
	op   int
	text string
	at   int
	kids []*part
	size int
}

func newPart(op, at int, text string, kids ...*part) *part {
	size := 1
	for _, kid := range kids {
		size += kid.size
	}
	return &part{op, text, at, kids, size}
}

// write appends the nodes of a part in post-order.
func (n *part) write(t api.Tree) api.Tree {
	node := api.Node{Op: n.op, Text: n.text, At: n.at}
	for i := range len(n.kids) {
		t = n.kids[i].write(t)
		node.Kids = append(node.Kids, len(t)-1)
	}
	return append(t, node)
}
