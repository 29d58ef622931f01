package value

import (
	"slices"

	"entail/api"
	"entail/instance"
)

// HasType reports whether a value has a base type.
func HasType(p api.Tree, v api.Value, typ string) (bool, api.Errno) {
	if e := Check(v); e != api.OK {
		return false, e
	}
	w, base, e := newWorld(p, typ)
	if e != api.OK {
		return false, e
	}
	return newHolder(w, v).has(0, base), api.OK
}

// question asks whether a part of a value has a type.
type question struct {
	part int
	typ  string
}

// holder answers questions about the parts of a value. It keeps the answers, so that constructors with one name do not multiply them.
type holder struct {
	*world
	parts   []api.Value
	sizes   []int // the numbers of parts of each part, which stand behind it
	answers map[question]bool
}

func newHolder(w *world, v api.Value) *holder {
	h := &holder{w, slices.Collect(parts(v)), nil, map[question]bool{}}
	h.sizes = make([]int, len(h.parts))
	for part := len(h.parts) - 1; part >= 0; part-- {
		h.sizes[part] = 1
		for range h.parts[part].Items {
			h.sizes[part] += h.sizes[part+h.sizes[part]]
		}
	}
	return h
}

// has reports whether a part has a base type; no part has an empty type.
func (h *holder) has(part int, typ string) bool {
	q := question{part, typ}
	if _, found := h.answers[q]; !found {
		h.answers[q] = h.decide(h.parts[part], part, h.describe(typ))
	}
	return h.answers[q]
}

func (h *holder) decide(v api.Value, part int, d description) bool {
	if kind, found := kindOf(d.head); found {
		return v.Kind == kind && h.all(part, d.args)
	}
	if s, found := sortNamed(d.head); found {
		return sortOf(v) == s
	}
	switch {
	case d.isVariable:
		return true
	case d.isObject:
		return v.Kind == api.VRef
	}
	return v.Kind == api.VCons && slices.ContainsFunc(d.constructors, func(c instance.Constructor) bool {
		return c.Name == v.Text && len(c.Fields) == len(v.Items) && h.all(part, c.Fields)
	})
}

// kindOf returns the kind of the values of bool and of the types of collections.
func kindOf(head string) (int, bool) {
	kinds := map[string]int{"bool": api.VBool, "seq": api.VSeq, "set": api.VSet, "multiset": api.VMulti, "map": api.VMap}
	kind, found := kinds[head]
	return kind, found
}

// all reports whether the Items of a part have some types, which come by turns.
func (h *holder) all(part int, list []string) bool {
	item := part + 1
	for i := range h.parts[part].Items {
		if !h.has(item, list[i%len(list)]) {
			return false
		}
		item += h.sizes[item]
	}
	return true
}
