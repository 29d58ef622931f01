package model

import (
	"iter"
	"slices"

	"entail/api"
)

// constant returns the map that has one value at all keys.
func constant(v api.Value) api.Value {
	return api.Value{Kind: api.VMap, Items: []api.Value{v}}
}

// entries yields the keys of a map with their values, without the default.
func entries(m api.Value) iter.Seq2[api.Value, api.Value] {
	return func(yield func(key, value api.Value) bool) {
		for i := 1; i < len(m.Items); i += 2 {
			if !yield(m.Items[i], m.Items[i+1]) {
				return
			}
		}
	}
}

// keysOf returns the keys of a map.
func keysOf(m api.Value) []api.Value {
	var out []api.Value
	for key := range entries(m) {
		out = append(out, key)
	}
	return out
}

// ascending returns values in their order, each once.
func ascending(lists ...[]api.Value) []api.Value {
	out := slices.Concat(lists...)
	slices.SortFunc(out, Compare)
	return slices.CompactFunc(out, same)
}

// selected returns the value of a map at a key.
func selected(m, key api.Value) api.Value {
	for k, v := range entries(m) {
		if same(k, key) {
			return v
		}
	}
	return m.Items[0]
}

// stored returns a map with another value at a key. (It may have more keys than a value can.)
func (w *world) stored(s *sort, m, key, v api.Value) api.Value {
	keys, other := ascending(keysOf(m), []api.Value{key}), m.Items[0]
	if first, found := w.firstKey(s); found && same(first, key) {
		keys, other = ascending(w.list(all(s.parts[0]))), v
	}
	out := constant(other)
	for _, k := range keys {
		value := v
		if !same(k, key) {
			value = selected(m, k)
		}
		if !same(value, other) {
			out.Items = append(out.Items, k, value)
		}
	}
	return out
}

// differing returns a key at which two maps have different values, and the zero if they are equal.
func (w *world) differing(s *sort, a, b api.Value) api.Value {
	keys := s.parts[0]
	if same(a, b) {
		return w.zero(keys)
	}
	listed, elements := ascending(keysOf(a), keysOf(b)), w.list(all(keys))
	asked := listed
	if w.isSmall(keys) {
		asked = elements
	}
	for _, key := range asked {
		if !same(selected(a, key), selected(b, key)) {
			return key
		}
	}
	at := slices.IndexFunc(elements, func(v api.Value) bool { return !contains(listed, v) })
	return elements[at]
}
