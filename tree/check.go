package tree

import (
	"entail/api"
	"entail/common"
	"entail/walk"
)

// checker examines the nodes of a tree one after the other; of those before the present one it knows the first node of the subtree, and its depth.
type checker struct {
	tree  api.Tree
	forms *[api.Ops]*form
	first []int
	depth []int
}

// Check returns the index of the first malformed node and the error, or 0 and OK.
func Check(t api.Tree) (int, api.Errno) {
	_, at, e := inspect(t)
	return at, e
}

// checked returns the error of the first tree that is not a syntax tree.
func checked(trees ...api.Tree) api.Errno {
	for _, t := range trees {
		if _, e := Check(t); e != api.OK {
			return e
		}
	}
	return api.OK
}

// inspect checks a tree, and returns what it found out about the nodes, too.
func inspect(t api.Tree) (checker, int, api.Errno) {
	switch {
	case len(t) == 0:
		return checker{}, 0, api.ErrEmpty
	case len(t) > api.MaxNodes:
		return checker{}, 0, api.ErrMany
	}
	c := checker{t, forms(), make([]int, len(t)), make([]int, len(t))}
	for p := range walk.Nodes(t) {
		if e := c.node(p); e != api.OK {
			return checker{}, p.Index, e
		}
	}
	if root := len(t) - 1; c.first[root] != 0 {
		return checker{}, root, api.ErrForm
	}
	return c, 0, api.OK
}

// node returns the error of a node.
func (c *checker) node(p walk.Place) api.Errno {
	switch {
	case p.Op < 0 || p.Op >= api.Ops:
		return api.ErrKind
	case !c.forms[p.Op].text(p.Text):
		return api.ErrName
	case !c.ordered(p):
		return api.ErrOrder
	}
	if e := common.First(c.shape(p), c.steps(p)); e != api.OK {
		return e
	}
	c.measure(p)
	switch {
	case p.At < 0:
		return api.ErrRange
	case c.depth[p.Index] > api.MaxDepth:
		return api.ErrDeep
	}
	return api.OK
}

// ordered reports whether the children are in order.
func (c *checker) ordered(p walk.Place) bool {
	before := p.Index - 1
	for i := len(p.Kids) - 1; i >= 0; i-- {
		if before < 0 || p.Kids[i] != before {
			return false
		}
		before = c.first[before] - 1
	}
	return true
}

// measure notes the first node and the depth of the subtree of a node whose children are in order.
func (c *checker) measure(p walk.Place) {
	c.first[p.Index], c.depth[p.Index] = p.Index, 1
	for i, kid := range p.Kids {
		if i == 0 {
			c.first[p.Index] = c.first[kid]
		}
		c.depth[p.Index] = max(c.depth[p.Index], c.depth[kid]+1)
	}
}

// shape returns the error of the number and the Ops of the children.
func (c *checker) shape(p walk.Place) api.Errno {
	if p.Op == api.EMap && len(p.Kids)%2 != 0 {
		return api.ErrShape
	}
	all := &c.forms[p.Op].groups
	if size, fixed := all.size(); fixed {
		return c.fixedShape(p.Kids, all, size)
	}
	return c.freeShape(p.Kids, all)
}

// size returns the number of children, and whether it is fixed.
func (all *groups) size() (int, bool) {
	size := 0
	for i := range all {
		g := &all[i]
		if g.bounds == (bounds{}) {
			break
		}
		if g.bounds[0] != g.bounds[1] {
			return 0, false
		}
		size += int(g.bounds[0])
	}
	return size, true
}

// fixedShape returns the error of children whose number is fixed.
func (c *checker) fixedShape(kids []int, all *groups, size int) api.Errno {
	if len(kids) != size {
		return api.ErrShape
	}
	for i := 0; len(kids) > 0; i++ {
		for range all[i].bounds[0] {
			if !c.takes(all[i], kids[0]) {
				return api.ErrForm
			}
			kids = kids[1:]
		}
	}
	return api.OK
}

// freeShape assigns children to the groups, greedily from the left, and returns the error of what is left or missing.
func (c *checker) freeShape(kids []int, all *groups) api.Errno {
	var taken [len(groups{})]int
	at := 0
	for _, kid := range kids {
		for at < len(all) && (all[at].full(taken[at]) || !c.takes(all[at], kid)) {
			at++
		}
		if at == len(all) {
			return c.leftOver(kid, all, &taken)
		}
		taken[at]++
	}
	for i, g := range all {
		if taken[i] < int(g.bounds[0]) {
			return api.ErrShape
		}
	}
	return api.OK
}

// full reports whether a group takes no more than some children.
func (g group) full(taken int) bool {
	return g.bounds[1] != unlimited && taken == int(g.bounds[1])
}

// leftOver returns the error of a child that no remaining group takes.
func (c *checker) leftOver(kid int, all *groups, taken *[len(groups{})]int) api.Errno {
	for i, g := range all {
		if g.bounds != (bounds{}) && g.full(taken[i]) && c.takes(g, kid) {
			return api.ErrShape
		}
	}
	return api.ErrForm
}

// takes reports whether a node is of an Op that a group takes.
func (c *checker) takes(g group, node int) bool {
	op := c.tree[node].Op
	switch g.takes {
	case aType:
		return classOf(op) == Type
	case anExpression:
		return classOf(op) == Expression
	case aPattern:
		return classOf(op) == Pattern
	case aStatement:
		return classOf(op) == Statement
	case aDeclaration:
		return classOf(op) == Declaration
	case aTarget:
		return op == api.EVar || op == api.EField || op == api.EIndex
	case aLiteral:
		return c.isLiteral(node)
	case anElse:
		return op == api.SBlock || op == api.SIf
	case aParameter:
		return op == api.DParam || op == api.DGhostParam
	case aField:
		return op == api.DField || op == api.DGhostField
	}
	return op == int(g.takes)
}

// isLiteral reports whether a node is what a PLit has below it.
func (c *checker) isLiteral(node int) bool {
	switch c.tree[node].Op {
	case api.EInt, api.EBool:
		return true
	case api.ENeg:
		return c.tree[c.tree[node].Kids[0]].Op == api.EInt
	}
	return false
}

// steps returns the error of the relations and blocks in an SCalc.
func (c *checker) steps(p walk.Place) api.Errno {
	if p.Op != api.SCalc {
		return api.OK
	}
	for i, kid := range p.Kids {
		step := c.tree[kid]
		last := i == len(p.Kids)-1
		if last != (step.Text == "") || last && len(step.Kids) > 1 {
			return api.ErrForm
		}
	}
	return api.OK
}
