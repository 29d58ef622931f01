package types

import (
	"slices"

	"entail/api"
	"entail/common"
	"entail/tree"
)

// maxReached is how many types the rules may reach.
const maxReached = 200

// Inhabited reports whether a type has a default value.
func Inhabited(p api.Tree, s string, vars []string) (bool, api.Errno) {
	r, e := reach(p, s, vars)
	if e != api.OK {
		return false, e
	}
	return r.types[0].isInhabited(), api.OK
}

// Default returns an expression for the default value of an inhabited type.
func Default(p api.Tree, s string) (api.Tree, api.Errno) {
	r, e := reach(p, s, nil)
	if e != api.OK {
		return nil, e
	}
	if !r.types[0].isInhabited() {
		return nil, api.ErrEmpty
	}
	out, e := r.defaultOf(r.types[0])
	if e != api.OK {
		return nil, e
	}
	if _, e := tree.Check(out); e != api.OK {
		return nil, e
	}
	return out, api.OK
}

// Finite reports whether a type has finitely many values that can be listed: bool, bv1 to bv4, datatypes whose constructors have no fields. (All types that the rules reach are asked for their errors, although the answer needs the first ones alone.)
func Finite(p api.Tree, s string) (bool, api.Errno) {
	r, e := reach(p, s, nil)
	if e != api.OK {
		return false, e
	}
	return r.isFinite(r.types[0]), api.OK
}

// reached is a type that the rules reach.
type reached struct {
	shape
	ways  []way
	round int // after how many rounds of the fixed point it is inhabited; 0 if it is not
	value api.Tree
}

// way is a list of types that make another one inhabited if all of them are. Of a constructor it has the name.
type way struct {
	name  string
	types []*reached
}

func (r *reached) isInhabited() bool {
	return r.round > 0
}

// isOpen reports whether all types of a way are inhabited.
func (w way) isOpen() bool {
	return !slices.ContainsFunc(w.types, func(t *reached) bool { return !t.isInhabited() })
}

func (w way) hasTypes() bool {
	return len(w.types) > 0
}

// rank returns after how many rounds all types of a way that is open are inhabited.
func (w way) rank() int {
	out := 0
	for _, t := range w.types {
		out = max(out, t.round)
	}
	return out
}

// reacher collects the types that the rules reach from a type, which is the first one of them.
type reacher struct {
	program
	types []*reached
	named map[string]*reached
}

// reach returns all types that the rules reach from a type that is well-formed, with the rounds after which they are inhabited.
func reach(p api.Tree, s string, vars []string) (*reacher, api.Errno) {
	f, t, e := checked(p, s, vars)
	if e != api.OK {
		return nil, e
	}
	r := &reacher{f, nil, map[string]*reached{}}
	r.add(t)
	for i := 0; i < len(r.types); i++ {
		if i == maxReached {
			return nil, api.ErrLimit
		}
		if e := r.follow(r.types[i]); e != api.OK {
			return nil, e
		}
	}
	r.count()
	return r, api.OK
}

// add returns a type that is reached.
func (r *reacher) add(s shape) *reached {
	text := s.text()
	if _, found := r.named[text]; !found {
		r.named[text] = &reached{shape: s}
		r.types = append(r.types, r.named[text])
	}
	return r.named[text]
}

// follow finds the ways of a type. (A variable that has the name of a declared type counts as this type.)
func (r *reacher) follow(t *reached) api.Errno {
	base, e := r.base(t.shape)
	if e != api.OK {
		return e
	}
	if b, found := builtinOf(t.head); found {
		if b.value != nil {
			t.ways = []way{{}}
		}
		return api.OK
	}
	switch d, _ := r.findType(t.head); d.Op {
	case api.DSubset:
		t.ways = []way{{types: []*reached{r.add(base)}}}
	case api.DDatatype:
		list, e := r.constructors(base)
		if e != api.OK {
			return e
		}
		t.ways = common.Transform(list, func(c constructor) way {
			return way{c.name, common.Transform(c.fields, func(f field) *reached { return r.add(f.typ) })}
		})
	}
	return api.OK
}

// count counts the rounds of the fixed point: in each one those types become inhabited that have a way by the rounds before.
func (r *reacher) count() {
	for round := range len(r.types) {
		var found []*reached
		for _, t := range r.types {
			if !t.isInhabited() && slices.ContainsFunc(t.ways, way.isOpen) {
				found = append(found, t)
			}
		}
		if len(found) == 0 {
			return
		}
		for _, t := range found {
			t.round = round + 1
		}
	}
}

// isFinite reports whether the values of a type can be listed.
func (r *reacher) isFinite(t *reached) bool {
	switch t.head {
	case "bool", "bv1", "bv2", "bv3", "bv4":
		return true
	}
	switch d, _ := r.findType(t.head); d.Op {
	case api.DSubset:
		return r.isFinite(t.ways[0].types[0]) // its base
	case api.DDatatype:
		return !slices.ContainsFunc(t.ways, way.hasTypes)
	}
	return false
}

// defaultOf returns the default expression of a type that is inhabited.
func (r *reacher) defaultOf(t *reached) (api.Tree, api.Errno) {
	if len(t.value) > 0 {
		return t.value, api.OK
	}
	value, e := r.expression(t)
	t.value = value
	return value, e
}

func (r *reacher) expression(t *reached) (api.Tree, api.Errno) {
	if b, found := builtinOf(t.head); found {
		return b.value(b), api.OK
	}
	if d, _ := r.findType(t.head); d.Op == api.DSubset {
		return witness(r.tree, d)
	}
	best := -1
	for i, w := range t.ways {
		if w.isOpen() && (best < 0 || w.rank() < t.ways[best].rank()) {
			best = i
		}
	}
	return r.applied(t.ways[best])
}

// witness returns the witness of a subset type, without offsets.
func witness(t api.Tree, subset declaration) (api.Tree, api.Errno) {
	out, e := tree.Sub(t, subset.Kids[2])
	for i := range out {
		out[i].At = 0
	}
	return out, e
}

// applied returns the constructor of a way, applied to default expressions.
func (r *reacher) applied(w way) (api.Tree, api.Errno) {
	root := api.Node{Op: api.ECons, Text: w.name}
	var out api.Tree
	for _, t := range w.types {
		value, e := r.defaultOf(t)
		if e != api.OK {
			return nil, e
		}
		out = appended(out, value)
		root.Kids = append(root.Kids, len(out)-1)
		if len(out) >= api.MaxNodes { // the root is one more
			return nil, api.ErrMany
		}
	}
	return append(out, root), api.OK
}

// appended returns nodes with a copy of a tree behind them.
func appended(t, more api.Tree) api.Tree {
	by := len(t)
	now := make(api.Tree, len(more))
	copy(now, more)
	for i := range now {
		now[i].Kids = common.Transform(more[i].Kids, func(kid int) int { return kid + by })
	}
	return append(t, now...)
}
