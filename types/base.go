package types

import (
	"slices"

	"entail/api"
)

// Base returns a type in which all subset types are replaced by their base types.
func Base(p api.Tree, s string) (string, api.Errno) {
	f, t, e := given(p, s)
	if e != api.OK {
		return "", e
	}
	base, e := f.base(t)
	if e != api.OK {
		return "", e
	}
	return base.text(), api.OK
}

// base returns the base of a type.
func (p program) base(s shape) (shape, api.Errno) {
	b := baser{p, map[string]shape{}, map[string]bool{}}
	if b.isCyclic(s, nil) {
		return shape{}, api.ErrCycle
	}
	return b.base(s)
}

// baser keeps what it found out about subset types.
type baser struct {
	program
	bases map[string]shape
	sound map[string]bool // the subset types that are not reached again within their bases
}

// subset returns the type of the variable of a subset type. (One with arguments, which is not well-formed, is replaced, too, so that no base has its name in it.)
func (b baser) subset(s shape) (shape, bool) {
	d, found := b.findType(s.head)
	if !found || d.Op != api.DSubset {
		return shape{}, false
	}
	return b.typeOf(declaration{Node: b.tree[d.Kids[0]]}), true
}

// isCyclic reports whether a type has a subset type in it that is reached again, or that is one of those around it.
func (b baser) isCyclic(s shape, around []string) bool {
	under, found := b.subset(s)
	if !found {
		return slices.ContainsFunc(s.args, func(arg shape) bool { return b.isCyclic(arg, around) })
	}
	if b.sound[s.head] {
		return false
	}
	if slices.Contains(around, s.head) || b.isCyclic(under, append(slices.Clone(around), s.head)) {
		return true
	}
	b.sound[s.head] = true
	return false
}

// base returns the base of a type that is not cyclic. A part that is too long makes the whole too long, so that nothing grows before it is asked for its size.
func (b baser) base(s shape) (shape, api.Errno) {
	if known, found := b.bases[s.head]; found {
		return known, api.OK
	}
	if under, found := b.subset(s); found {
		out, e := b.base(under)
		if e == api.OK {
			b.bases[s.head] = out
		}
		return out, e
	}
	out := shape{head: s.head}
	for _, arg := range s.args {
		base, e := b.base(arg)
		if e != api.OK {
			return shape{}, e
		}
		out.args = append(out.args, base)
	}
	if e := out.size(); e != api.OK {
		return shape{}, e
	}
	return out, api.OK
}
