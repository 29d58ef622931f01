package value

import (
	"slices"

	"entail/api"
	"entail/common"
	"entail/num"
)

// pair is the kinds of two values.
type pair [2]int

// kindsOf returns the kinds of two values.
func kindsOf(a, b api.Value) pair {
	return pair{a.Kind, b.Kind}
}

// collect returns the collection of a kind with some elements, of a map with keys and values by turns. (Whether there are too many is asked when the result is checked.)
func collect(kind int, items []api.Value) api.Value {
	switch kind {
	case api.VSet:
		items = slices.CompactFunc(sorted(items), isEqual)
	case api.VMulti:
		items = sorted(items)
	case api.VMap:
		items = mapItems(items)
	}
	return api.Value{Kind: kind, Items: items}
}

// collector returns the operation that makes a collection of its arguments.
func collector(kind int) func([]api.Value) (api.Value, api.Errno) {
	return func(l []api.Value) (api.Value, api.Errno) { return collect(kind, l), api.OK }
}

// entry is a key with its value.
type entry [2]api.Value

// entries returns the entries of Items that are keys and values by turns.
func entries(items []api.Value) []entry {
	var out []entry
	for i := 0; i < len(items); i += 2 {
		out = append(out, entry{items[i], items[i+1]})
	}
	return out
}

// mapItems returns keys, ascending, and values by turns; of entries with one key it takes the last one.
func mapItems(items []api.Value) []api.Value {
	list := entries(items)
	slices.Reverse(list)
	slices.SortStableFunc(list, func(a, b entry) int { return element{a[0]}.compare(element{b[0]}) })
	list = slices.CompactFunc(list, func(a, b entry) bool { return isEqual(a[0], b[0]) })
	var out []api.Value
	for _, e := range list {
		out = append(out, e[:]...)
	}
	return out
}

// keys returns the keys of a map.
func keys(v api.Value) []api.Value {
	return common.Transform(entries(v.Items), func(e entry) api.Value { return e[0] })
}

// find returns the index of a value in a list, or -1.
func find(l []api.Value, v api.Value) int {
	return slices.IndexFunc(l, func(other api.Value) bool { return isEqual(other, v) })
}

// count returns how often each value is in a list, by its string.
func count(l []api.Value) map[string]int {
	out := map[string]int{}
	for _, v := range l {
		out[text(v)]++
	}
	return out
}

// without returns the values of a list that remain if those of another one are taken away, each one as often as it is there.
func without(l, other []api.Value) []api.Value {
	left := count(other)
	return slices.DeleteFunc(slices.Clone(l), func(v api.Value) bool {
		key := text(v)
		left[key]--
		return left[key] >= 0
	})
}

// union joins two collections of one kind.
func union(l []api.Value) (api.Value, api.Errno) {
	a, b := l[0], l[1]
	switch kindsOf(a, b) {
	case pair{api.VSeq, api.VSeq}, pair{api.VSet, api.VSet}, pair{api.VMulti, api.VMulti}, pair{api.VMap, api.VMap}:
		return collect(a.Kind, slices.Concat(a.Items, b.Items)), api.OK
	}
	return api.Value{}, api.ErrKind
}

// difference takes the elements of the second collection away from the first one.
func difference(l []api.Value) (api.Value, api.Errno) {
	a, b := l[0], l[1]
	switch kindsOf(a, b) {
	case pair{api.VSet, api.VSet}, pair{api.VMulti, api.VMulti}:
		return collect(a.Kind, without(a.Items, b.Items)), api.OK
	case pair{api.VMap, api.VSet}:
		return collect(a.Kind, withoutKeys(a.Items, b.Items)), api.OK
	}
	return api.Value{}, api.ErrKind
}

// withoutKeys returns the keys and values by turns whose keys are not in a list.
func withoutKeys(items, l []api.Value) []api.Value {
	var out []api.Value
search:
	for _, e := range entries(items) {
		for _, key := range l {
			if isEqual(key, e[0]) {
				continue search
			}
		}
		out = append(out, e[:]...)
	}
	return out
}

// intersection takes away what the difference has.
func intersection(l []api.Value) (api.Value, api.Errno) {
	a, b := l[0], l[1]
	switch kindsOf(a, b) {
	case pair{api.VSet, api.VSet}, pair{api.VMulti, api.VMulti}:
		return collect(a.Kind, without(a.Items, without(a.Items, b.Items))), api.OK
	}
	return api.Value{}, api.ErrKind
}

// in says whether an element occurs in a collection.
func in(l []api.Value) (api.Value, api.Errno) {
	among := l[1].Items
	switch l[1].Kind {
	case api.VSeq, api.VSet, api.VMulti:
	case api.VMap:
		among = keys(l[1])
	default:
		return api.Value{}, api.ErrKind
	}
	return ofBool(find(among, l[0]) >= 0), api.OK
}

// position returns an int as a number from 0 to a greatest one, and whether it is one.
func position(v api.Value, greatest int) (int, bool) {
	n, e := num.ToInt(v.Num)
	return n, e == api.OK && n >= 0 && n <= greatest
}

func index(l []api.Value) (api.Value, api.Errno) {
	switch v := l[0]; {
	case kindsOf(v, l[1]) == pair{api.VSeq, api.VInt}:
		at, exists := position(l[1], len(v.Items)-1)
		if !exists {
			return api.Value{}, api.ErrIndex
		}
		return v.Items[at], api.OK
	case v.Kind == api.VMap:
		at := find(keys(v), l[1])
		if at < 0 {
			return api.Value{}, api.ErrKey
		}
		return v.Items[2*at+1], api.OK
	case v.Kind == api.VMulti:
		return ofInt(count(v.Items)[text(l[1])]), api.OK
	}
	return api.Value{}, api.ErrKind
}

func slice(l []api.Value) (api.Value, api.Errno) {
	v := l[0]
	if v.Kind != api.VSeq || kindsOf(l[1], l[2]) != (pair{api.VInt, api.VInt}) {
		return api.Value{}, api.ErrKind
	}
	high, highExists := position(l[2], len(v.Items))
	low, lowExists := position(l[1], high)
	if !highExists || !lowExists {
		return api.Value{}, api.ErrIndex
	}
	v.Items = v.Items[low:high]
	return v, api.OK
}

func update(l []api.Value) (api.Value, api.Errno) {
	v := l[0]
	switch {
	case kindsOf(v, l[1]) == pair{api.VSeq, api.VInt}:
		at, exists := position(l[1], len(v.Items)-1)
		if !exists {
			return api.Value{}, api.ErrIndex
		}
		items := make([]api.Value, len(v.Items))
		copy(items, v.Items)
		items[at] = l[2]
		return collect(v.Kind, items), api.OK
	case v.Kind == api.VMap:
		return collect(v.Kind, slices.Concat(v.Items, l[1:])), api.OK
	case kindsOf(v, l[2]) == pair{api.VMulti, api.VInt}:
		return withMultiplicity(v, l[1], l[2])
	}
	return api.Value{}, api.ErrKind
}

// withMultiplicity returns a multiset in which an element has another multiplicity.
func withMultiplicity(v, item, multiplicity api.Value) (api.Value, api.Errno) {
	if isNegative(multiplicity) {
		return api.Value{}, api.ErrRange
	}
	times, small := position(multiplicity, api.MaxItems)
	if !small {
		return api.Value{}, api.ErrMany
	}
	others := slices.DeleteFunc(slices.Clone(v.Items), func(other api.Value) bool { return isEqual(other, item) })
	return collect(v.Kind, append(others, slices.Repeat([]api.Value{item}, times)...)), api.OK
}

func cardinality(l []api.Value) (api.Value, api.Errno) {
	switch v := l[0]; v.Kind {
	case api.VSeq, api.VSet, api.VMulti:
		return ofInt(len(v.Items)), api.OK
	case api.VMap:
		return ofInt(len(v.Items) / 2), api.OK
	}
	return api.Value{}, api.ErrKind
}
