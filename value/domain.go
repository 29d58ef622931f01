package value

import (
	"iter"
	"slices"

	"entail/api"
	"entail/common"
	"entail/instance"
	"entail/types"
)

// Domain returns a finite list of values of a type, and whether it has all of them.
func Domain(p api.Tree, typ string, size int) ([]api.Value, bool, api.Errno) {
	w, base, e := newWorld(p, typ)
	switch {
	case e != api.OK:
		return nil, false, e
	case size < 0 || size > MaxSize:
		return nil, false, api.ErrRange
	}
	d := domains{w, map[sized][]api.Value{}}
	complete, e := types.Finite(p, base)
	return common.Transform(d.of(base, size), common.Clone), complete && e == api.OK, api.OK
}

// sized is a type with a size.
type sized struct {
	typ  string
	size int
}

// domains keeps the domains that were asked for.
type domains struct {
	*world
	found map[sized][]api.Value
}

// of returns the domain of a base type; that of an empty type, and those for negative sizes, are empty.
func (d domains) of(typ string, size int) []api.Value {
	key := sized{typ, size}
	if _, found := d.found[key]; !found && size >= 0 {
		d.found[key] = d.first(typ, size)
	}
	return d.found[key]
}

// first returns the first values of a type, each once.
func (d domains) first(typ string, size int) []api.Value {
	var out []api.Value
	for v := range d.values(typ, size) {
		if find(out, v) < 0 {
			out = append(out, v)
		}
		if len(out) == MaxDomain {
			break
		}
	}
	return out
}

// values yields the values of a type in their order.
func (d domains) values(typ string, size int) iter.Seq[api.Value] {
	t := d.describe(typ)
	switch t.head {
	case "bool":
		return slices.Values([]api.Value{ofBool(false), ofBool(true)})
	case "int":
		return slices.Values(ints(size))
	case "real":
		return slices.Values(reals(size))
	case "seq":
		return collections(api.VSeq, d.of(t.args[0], size-1), size)
	case "set":
		return collections(api.VSet, d.of(t.args[0], size-1), size)
	case "multiset":
		return collections(api.VMulti, d.of(t.args[0], size-1), size)
	case "map":
		return dictionaries(d.of(t.args[0], size-1), d.of(t.args[1], size-1), size)
	}
	if s, found := sortNamed(t.head); found {
		return slices.Values(vectors(s, size))
	}
	return d.applications(t.constructors, size)
}

// ints returns the integers up to a size: 0, 1, -1, 2, -2 and so on.
func ints(size int) []api.Value {
	out := []api.Value{ofInt(0)}
	for n := range size {
		out = append(out, ofInt(n+1), ofInt(-n-1))
	}
	return out
}

func reals(size int) []api.Value {
	out := common.Transform(ints(size), func(v api.Value) api.Value { return api.Value{Kind: api.VReal, Num: v.Num + "/1"} })
	if size >= 1 {
		out = append(out, api.Value{Kind: api.VReal, Num: "1/2"}, api.Value{Kind: api.VReal, Num: "-1/2"})
	}
	return out
}

// maxListed is the greatest width of bit vectors of which a domain has all.
const maxListed = 4

func vectors(s sort, size int) []api.Value {
	width, greatest := widthOf(api.Value{Text: s.width}), size
	if width <= maxListed {
		greatest = 1<<width - 1
	}
	var out []api.Value
	for n := range greatest + 1 {
		out = append(out, api.Value{Kind: s.kind, Num: ofInt(n).Num, Text: s.width})
	}
	if width > maxListed && size >= 1 {
		out = append(out, allOnes(s, width))
	}
	return out
}

// collections yields the collections of up to size elements of a domain.
func collections(kind int, elements []api.Value, size int) iter.Seq[api.Value] {
	gap := map[int]int{api.VSeq: -len(elements), api.VSet: 1, api.VMulti: 0}[kind]
	return func(yield func(api.Value) bool) {
		for length := range size + 1 {
			for at := range positions(len(elements), length, gap) {
				if !yield(collect(kind, common.Transform(at, func(i int) api.Value { return elements[i] }))) {
					return
				}
			}
		}
	}
}

// dictionaries yields the maps with up to size keys.
func dictionaries(keys, values []api.Value, size int) iter.Seq[api.Value] {
	return func(yield func(api.Value) bool) {
		for length := range size + 1 {
			for at := range positions(len(keys), length, 1) {
				for chosen := range tuples(slices.Repeat([][]api.Value{values}, length)) {
					var items []api.Value
					for i, key := range at {
						items = append(items, keys[key], chosen[i])
					}
					if !yield(collect(api.VMap, items)) {
						return
					}
				}
			}
		}
	}
}

// applications yields the constructors with their arguments.
func (d domains) applications(list []instance.Constructor, size int) iter.Seq[api.Value] {
	return func(yield func(api.Value) bool) {
		for _, c := range list {
			fields := common.Transform(c.Fields, func(typ string) []api.Value { return d.of(typ, size-1) })
			for args := range tuples(fields) {
				if !yield(api.Value{Kind: api.VCons, Text: c.Name, Items: slices.Clone(args)}) {
					return
				}
			}
		}
	}
}

// positions yields the lists of some positions below n, in lexicographic order, each position by at least a gap above the one before.
func positions(n, length, gap int) iter.Seq[[]int] {
	return func(yield func([]int) bool) {
		var extend func(chosen []int, least int) bool
		extend = func(chosen []int, least int) bool {
			if len(chosen) == length {
				return yield(chosen)
			}
			for at := max(least, 0); at < n; at++ {
				if !extend(append(slices.Clone(chosen), at), at+gap) {
					return false
				}
			}
			return true
		}
		extend(nil, 0)
	}
}

// tuples yields the lists with one element of each of some lists, of which the last one changes fastest.
func tuples(lists [][]api.Value) iter.Seq[[]api.Value] {
	return func(yield func([]api.Value) bool) {
		at := make([]int, len(lists))
		for !slices.ContainsFunc(lists, func(l []api.Value) bool { return len(l) == 0 }) {
			chosen := make([]api.Value, len(lists))
			for i := range lists {
				chosen[i] = lists[i][at[i]]
			}
			if !yield(chosen) || !advance(at, lists) {
				return
			}
		}
	}
}

// advance moves on to the next positions in some lists, and reports whether there are any.
func advance(at []int, lists [][]api.Value) bool {
	for i := len(at) - 1; i >= 0; i-- {
		at[i]++
		if at[i] < len(lists[i]) {
			return true
		}
		at[i] = 0
	}
	return false
}
