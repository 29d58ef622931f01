package model

import (
	"iter"
	"slices"

	"entail/api"
	"entail/common"
	"entail/num"
)

// list returns the elements that are asked for.
func (w *world) list(x extent) []api.Value {
	if _, found := w.lists[x]; !found {
		var out []api.Value
		for v := range w.elements(w.bounded(x)) {
			out = append(out, v)
			if len(out) == x.number {
				break
			}
		}
		w.lists[x] = out
	}
	return w.lists[x]
}

// elements yields the elements of a sort in their order, at least those that are asked for.
func (w *world) elements(x extent) iter.Seq[api.Value] {
	switch x.sort.kind {
	case api.SortBool:
		return slices.Values([]api.Value{ofBool(false), ofBool(true)})
	case api.SortInt:
		return integers(x.number, ofInt)
	case api.SortReal:
		return integers(x.number, ofReal)
	case datatype:
		return w.applications(x)
	case "Seq":
		return sequences(w.list(x.part(0, x.number)), x.number)
	case "Set":
		return sets(w.list(x.part(0, keyElements)))
	case "Map":
		return w.maps(x.sort, w.list(x.part(0, keyElements)), w.list(x.part(1, x.number)))
	}
	return w.references(x.sort)
}

// integers yields 0, 1, -1, 2, -2 and so on.
func integers(number int, of func(string) api.Value) iter.Seq[api.Value] {
	return func(yield func(api.Value) bool) {
		for i := range number {
			n := (i + 1) / 2
			if i%2 == 0 {
				n = -n
			}
			if !yield(of(num.FromInt(n))) {
				return
			}
		}
	}
}

// references yields the elements of an uninterpreted sort.
func (w *world) references(s *sort) iter.Seq[api.Value] {
	return func(yield func(api.Value) bool) {
		for i := range w.sizes[s.name] {
			if !yield(api.Value{Kind: api.VRef, Num: num.FromInt(i)}) {
				return
			}
		}
	}
}

// applications yields the elements of a datatype to a depth.
func (w *world) applications(x extent) iter.Seq[api.Value] {
	return func(yield func(api.Value) bool) {
		if x.depth == 0 {
			return
		}
		for _, c := range w.datas[x.sort.name].Cons {
			for args := range tuples(common.Transform(w.fields(x, c), w.list)) {
				if !yield(api.Value{Kind: api.VCons, Text: c.Name, Items: slices.Clone(args)}) {
					return
				}
			}
		}
	}
}

// sequences yields sequences by their lengths, up to a number of them.
func sequences(items []api.Value, number int) iter.Seq[api.Value] {
	return func(yield func(api.Value) bool) {
		for length := range number {
			for chosen := range tuples(slices.Repeat([][]api.Value{items}, length)) {
				if !yield(sequence(slices.Clone(chosen)...)) {
					return
				}
			}
		}
	}
}

// sets yields the sets of some elements in the order of binary numbers.
func sets(elements []api.Value) iter.Seq[api.Value] {
	return func(yield func(api.Value) bool) {
		for number := range 1 << len(elements) {
			var items []api.Value
			for i, v := range elements {
				if number>>i&1 == 1 {
					items = append(items, v)
				}
			}
			if !yield(set(ascending(items)...)) {
				return
			}
		}
	}
}

// maps yields the maps that have any of some values at some keys and the first one at all others; the value at the first key changes fastest.
func (w *world) maps(s *sort, keys, values []api.Value) iter.Seq[api.Value] {
	return func(yield func(api.Value) bool) {
		if len(values) == 0 {
			return
		}
		for chosen := range tuples(slices.Repeat([][]api.Value{values}, len(keys))) {
			m := constant(values[0])
			for i, key := range keys {
				m = w.stored(s, m, key, chosen[len(keys)-1-i])
			}
			if !yield(m) {
				return
			}
		}
	}
}

// tuples yields the lists with one element of each of some lists, of which the last one changes fastest. A list that is yielded changes with the next one.
func tuples(lists [][]api.Value) iter.Seq[[]api.Value] {
	return func(yield func([]api.Value) bool) {
		chosen, at := make([]api.Value, len(lists)), make([]int, len(lists))
		for i, list := range lists {
			if len(list) == 0 {
				return
			}
			chosen[i] = list[0]
		}
		for yield(chosen) {
			i := len(lists) - 1
			for ; i >= 0 && at[i] == len(lists[i])-1; i-- {
				at[i], chosen[i] = 0, lists[i][0]
			}
			if i < 0 {
				return
			}
			at[i]++
			chosen[i] = lists[i][at[i]]
		}
	}
}

// zero returns the zero of a sort.
func (w *world) zero(s *sort) api.Value {
	switch s.kind {
	case api.SortBool:
		return ofBool(false)
	case api.SortInt:
		return ofInt("0")
	case api.SortReal:
		return ofReal("0")
	case datatype:
		return w.zeroOf(s.name)
	case "Seq":
		return sequence()
	case "Set":
		return set()
	case "Map":
		return constant(w.zero(s.parts[1]))
	}
	return api.Value{Kind: api.VRef, Num: "0"}
}

// zeroOf returns the zero of a datatype. The zeros of all datatypes are found in rounds.
func (w *world) zeroOf(name string) api.Value {
	for w.lacksZero(w.known(name)) {
		round := map[string]api.Value{}
		for _, d := range w.sig.Datas {
			if _, found := w.zeros[d.Sort]; found {
				continue
			}
			if v, found := w.firstApplication(d); found {
				round[d.Sort] = v
			}
		}
		for name, v := range round {
			w.zeros[name] = v
		}
	}
	return w.zeros[name]
}

// firstApplication returns the first constructor of a datatype all of whose fields have zeros, applied to these.
func (w *world) firstApplication(d api.Datatype) (api.Value, bool) {
	for _, c := range d.Cons {
		sorts := w.fieldSorts(c)
		if !slices.ContainsFunc(sorts, w.lacksZero) {
			return api.Value{Kind: api.VCons, Text: c.Name, Items: common.Transform(sorts, w.zero)}, true
		}
	}
	return api.Value{}, false
}

// lacksZero reports whether a sort has no zero by now.
func (w *world) lacksZero(s *sort) bool {
	switch s.kind {
	case datatype:
		_, found := w.zeros[s.name]
		return !found
	case "Map":
		return w.lacksZero(s.parts[1])
	}
	return false
}
