package pattern

import (
	"iter"

	"entail/api"
	"entail/common"
	"entail/walk"
)

// matcher collects the variables of a pattern with their values.
type matcher struct {
	tree     api.Tree
	bindings []Binding
}

// matches reports whether a value matches the pattern at a node.
func (m *matcher) matches(node int, v api.Value) bool {
	p := walk.At(m.tree, node)
	switch p.Op {
	case api.PVar:
		m.bindings = append(m.bindings, Binding{p.Text, common.Clone(v)})
	case api.PCons:
		return m.application(p, v)
	case api.PLit:
		return literalAt(m.tree, p).isOf(v)
	}
	return true
}

// application reports whether a value has the constructor of a pattern, and its parts match.
func (m *matcher) application(p walk.Place, v api.Value) bool {
	if v.Kind != api.VCons || v.Text != p.Text || len(v.Items) != len(p.Kids) {
		return false
	}
	for i, part := range parts(v) {
		if !m.matches(p.Kids[i], part) {
			return false
		}
	}
	return true
}

// isOf reports whether a literal stands for a value.
func (l literal) isOf(v api.Value) bool {
	switch v.Kind {
	case api.VBool:
		return l == literal{true, map[string]string{"0": "false", "1": "true"}[v.Num]}
	case api.VInt, api.VBits:
		return l == literal{false, v.Num}
	}
	return false
}

// parts yields the arguments of a constructor with their numbers; other values have no parts.
func parts(v api.Value) iter.Seq2[int, api.Value] {
	return func(yield func(int, api.Value) bool) {
		if v.Kind != api.VCons {
			return
		}
		for i, item := range v.Items {
			if !yield(i, item) {
				return
			}
		}
	}
}

// follow returns the part of a value at a path, and whether there is one.
func follow(v api.Value, path []int) (api.Value, bool) {
	for _, number := range path {
		found := false
		for i, part := range parts(v) {
			if i == number {
				v, found = part, true
				break
			}
		}
		if !found {
			return api.Value{}, false
		}
	}
	return v, true
}
