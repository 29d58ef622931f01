package model

import (
	"slices"

	"entail/api"
	"entail/num"
)

func sequence(items ...api.Value) api.Value {
	return api.Value{Kind: api.VSeq, Items: items}
}

func set(items ...api.Value) api.Value {
	return api.Value{Kind: api.VSet, Items: items}
}

// index returns an item's index in a sequence, and whether there is an item.
func index(s, n api.Value) (int, bool) {
	i, e := num.ToInt(n.Num)
	return i, e == api.OK && i >= 0 && i < len(s.Items)
}

// item returns the item of a sequence with an index, and otherwise another value.
func item(s, n, otherwise api.Value) api.Value {
	if i, found := index(s, n); found {
		return s.Items[i]
	}
	return otherwise
}

// put returns a sequence with another item at an index.
func put(s, n, v api.Value) api.Value {
	i, found := index(s, n)
	if !found {
		return s
	}
	items := slices.Clone(s.Items)
	items[i] = v
	return sequence(items...)
}

// bound returns a number from 0 to the length of a sequence that is next to a numeral.
func bound(s, n api.Value) int {
	i, e := num.ToInt(n.Num)
	switch {
	case n.Num[0] == '-':
		return 0
	case e != api.OK:
		return len(s.Items)
	}
	return min(i, len(s.Items))
}

// cut returns the items of a sequence from one index to the one before another one.
func cut(s, from, to api.Value) api.Value {
	first := bound(s, from)
	return sequence(s.Items[first:max(first, bound(s, to))]...)
}

// isPrefix reports whether a sequence begins with another one.
func isPrefix(a, b api.Value) bool {
	return len(a.Items) <= len(b.Items) && slices.EqualFunc(a.Items, b.Items[:len(a.Items)], same)
}

// firstDifference returns the least index at which two sequences differ, and 0 if they are equal.
func firstDifference(a, b api.Value) int {
	if same(a, b) {
		return 0
	}
	at := 0
	for at < min(len(a.Items), len(b.Items)) && same(a.Items[at], b.Items[at]) {
		at++
	}
	return at
}

// joined returns the elements of two sets.
func joined(a, b api.Value) api.Value {
	return set(ascending(a.Items, b.Items)...)
}

// chosen returns the elements of a set that another one has, or those that it has not.
func chosen(a, b api.Value, has bool) api.Value {
	return set(slices.DeleteFunc(slices.Clone(a.Items), func(v api.Value) bool { return contains(b.Items, v) != has })...)
}

// isSubset reports whether a set has all elements of another one.
func isSubset(a, b api.Value) bool {
	return len(chosen(a, b, false).Items) == 0
}

// firstAlone returns the least element that only one of two sets has, and otherwise another value.
func firstAlone(a, b, otherwise api.Value) api.Value {
	if alone := joined(chosen(a, b, false), chosen(b, a, false)); len(alone.Items) > 0 {
		return alone.Items[0]
	}
	return otherwise
}
