package model

import (
	"slices"

	"entail/api"
	"entail/common"
	"entail/num"
)

// has reports whether a value is one of a sort.
func (w *world) has(s *sort, v api.Value) bool {
	return fits(v) && w.includes(s, v)
}

// includes reports whether a value that is within the limits is one of a sort.
func (w *world) includes(s *sort, v api.Value) bool {
	hasNum, hasText, hasItems := v.Num != "", v.Text != "", len(v.Items) > 0
	switch s.kind {
	case datatype:
		return v.Kind == api.VCons && !hasNum && w.includesApplication(s, v)
	case "Seq":
		return v.Kind == api.VSeq && !hasNum && !hasText && w.includesAll(s.parts[0], v.Items)
	case "Set":
		return v.Kind == api.VSet && !hasNum && !hasText && w.includesAll(s.parts[0], v.Items) && isAscending(v.Items)
	case "Map":
		return v.Kind == api.VMap && !hasNum && !hasText && w.includesMap(s, v)
	}
	return !hasText && !hasItems && w.includesNumber(s, v)
}

// includesNumber reports whether a number is one of a sort whose values are numbers.
func (w *world) includesNumber(s *sort, v api.Value) bool {
	switch s.kind {
	case api.SortBool:
		return v.Kind == api.VBool && (v.Num == "0" || v.Num == "1")
	case api.SortInt:
		return v.Kind == api.VInt && num.Check(v.Num) == api.OK
	case api.SortReal:
		return v.Kind == api.VReal && num.CheckReal(v.Num) == api.OK
	}
	n, e := num.ToInt(v.Num)
	return v.Kind == api.VRef && e == api.OK && n >= 0 && n < w.sizes[s.name]
}

func (w *world) includesApplication(s *sort, v api.Value) bool {
	c, found := w.constructor(s, v.Text)
	if !found || len(c.Fields) != len(v.Items) {
		return false
	}
	for i, field := range w.fieldSorts(c) {
		if !w.includes(field, v.Items[i]) {
			return false
		}
	}
	return true
}

// includesAll reports whether some values are of a sort.
func (w *world) includesAll(s *sort, list []api.Value) bool {
	return !slices.ContainsFunc(list, func(v api.Value) bool { return !w.includes(s, v) })
}

// isAscending reports whether each value is less than the next one.
func isAscending(list []api.Value) bool {
	for i := range len(list) - 1 {
		if Compare(list[i], list[i+1]) >= 0 {
			return false
		}
	}
	return true
}

// includesMap reports whether a value is a map of a sort: its keys are ascending, none of them has the default as its value, and none is the element whose value the default has to be.
func (w *world) includesMap(s *sort, v api.Value) bool {
	if len(v.Items)%2 == 0 {
		return false
	}
	keys := keysOf(v)
	values := common.Transform(keys, func(key api.Value) api.Value { return selected(v, key) })
	if !w.includes(s.parts[1], v.Items[0]) || !w.includesAll(s.parts[0], keys) || !w.includesAll(s.parts[1], values) || !isAscending(keys) {
		return false
	}
	first, hasFirst := w.firstKey(s)
	return !contains(values, v.Items[0]) && !(hasFirst && contains(keys, first))
}

// contains reports whether a value is in a list.
func contains(list []api.Value, v api.Value) bool {
	return slices.ContainsFunc(list, func(other api.Value) bool { return same(v, other) })
}
