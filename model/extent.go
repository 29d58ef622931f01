package model

import (
	"entail/api"
	"entail/common"
)

// How many elements of a sort are asked for: one more than a small sort has, those of which sets and the keys of maps are made, and those of other sorts in a search.
const (
	manyElements = MaxSmall + 1
	keyElements  = 7
	someElements = 3
)

// anyDepth stands for no limit of the depth of datatypes.
const anyDepth = -1

// extent says how many elements of a sort are asked for, to a depth of the datatypes.
type extent struct {
	sort   *sort
	number int
	depth  int
}

// part returns the extent of a part of the sort.
func (x extent) part(i, number int) extent {
	return extent{x.sort.parts[i], number, x.depth}
}

// fields returns the extents of the fields of a constructor.
func (w *world) fields(x extent, c api.Cons) []extent {
	return common.Transform(c.Fields, func(f api.Bound) extent { return extent{w.known(f.Sort), x.number, x.depth - 1} })
}

// bounded returns an extent with the depth that decides: that of a datatype is the least one to which there are enough elements, or none have been added for a while.
func (w *world) bounded(x extent) extent {
	if !x.sort.isDeep {
		x.depth = anyDepth
	}
	if x.sort.kind != datatype || x.depth != anyDepth {
		return x
	}
	before, equal := 0, 1 // to the depth 0 there are none
	for x.depth = 1; ; x.depth++ {
		count := w.count(x)
		if count != before {
			before, equal = count, 0
		}
		equal++
		if count == x.number || equal == len(w.sig.Datas)+2 {
			return x
		}
	}
}

// count returns how many of the elements that are asked for there are.
func (w *world) count(x extent) int {
	if _, found := w.counts[x]; !found {
		w.counts[x] = min(x.number, w.countAll(w.bounded(x)))
	}
	return w.counts[x]
}

// countAll returns how many elements there are; from the number that is asked for on it need not be exact.
func (w *world) countAll(x extent) int {
	switch x.sort.kind {
	case api.SortBool:
		return 2
	case uninterpreted:
		return w.sizes[x.sort.name]
	case datatype:
		return w.countApplications(x)
	case "Seq":
		if w.count(x.part(0, x.number)) == 0 {
			return 1
		}
	case "Set":
		return 1 << w.count(x.part(0, keyElements))
	case "Map":
		return w.countMaps(x)
	}
	return x.number
}

func (w *world) countApplications(x extent) int {
	out := 0
	if x.depth == 0 {
		return out
	}
	for _, c := range w.datas[x.sort.name].Cons {
		product := 1
		for _, field := range w.fields(x, c) {
			product = min(x.number, product*w.count(field))
		}
		out += product
	}
	return out
}

// countMaps counts the maps that have any values at some keys; without a value for all other keys there are none.
func (w *world) countMaps(x extent) int {
	values := w.count(x.part(1, x.number))
	out := min(values, 1)
	for range w.count(x.part(0, keyElements)) {
		out = min(x.number, out*values)
	}
	return out
}

// all returns the extent of all elements of a sort, as far as it is small.
func all(s *sort) extent {
	return extent{s, manyElements, anyDepth}
}

// isSmall reports whether quantifiers over a sort are exact.
func (w *world) isSmall(s *sort) bool {
	return w.count(all(s)) < manyElements
}

// values returns the values over which quantifiers of a sort range.
func (w *world) values(s *sort) []api.Value {
	if w.isSmall(s) {
		return w.list(all(s))
	}
	for _, d := range w.domains {
		if d.Sort == s.name {
			return d.Values
		}
	}
	return []api.Value{w.zero(s)}
}

// firstKey returns the element of the keys of a map whose value is the default, if there is one.
func (w *world) firstKey(s *sort) (api.Value, bool) {
	keys := s.parts[0]
	if !w.isSmall(keys) {
		return api.Value{}, false
	}
	return w.list(all(keys))[0], true
}
