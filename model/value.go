package model

import (
	"cmp"
	"strings"

	"entail/api"
	"entail/common"
	"entail/num"
)

// The limits of values.
const (
	maxDepth    = 80
	maxKeys     = 32
	maxReturned = 1 << 24 // values in a zero or an element; nothing is promised of larger results
)

// element is a value as one of others that it is compared with.
type element struct {
	api.Value
}

// outside compares two values without what is in their Items.
func (a element) outside(b element) int {
	switch {
	case a.Kind != b.Kind:
		return cmp.Compare(a.Kind, b.Kind)
	case len(a.Num) != len(b.Num):
		return cmp.Compare(len(a.Num), len(b.Num))
	case a.Num != b.Num:
		return strings.Compare(a.Num, b.Num)
	case a.Text != b.Text:
		return strings.Compare(a.Text, b.Text)
	}
	return cmp.Compare(len(a.Items), len(b.Items))
}

// pair is two lists of one length whose values are compared.
type pair [2][]api.Value

// Compare returns -1, 0 or 1 for two values. (They may be nested deeper than calls can be.)
func Compare(a, b api.Value) int {
	compare := element.outside
	order := compare(element{a}, element{b})
	if order != 0 || len(a.Items) == 0 {
		return order
	}
	waiting := []pair{{a.Items, b.Items}}
	for len(waiting) > 0 {
		last := len(waiting) - 1
		x, y := waiting[last][0], waiting[last][1]
		if len(x) == 0 || &x[0] == &y[0] { // what both share need not be read
			waiting = waiting[:last]
			continue
		}
		if order := compare(element{x[0]}, element{y[0]}); order != 0 {
			return order
		}
		waiting[last] = pair{x[1:], y[1:]}
		waiting = append(waiting, pair{x[0].Items, y[0].Items})
	}
	return 0
}

// same reports whether two values are equal.
func same(a, b api.Value) bool {
	return Compare(a, b) == 0
}

// scale counts the values in a value.
type scale struct {
	count int
}

// holds reports whether a value at a depth is within the limits.
func (s *scale) holds(v api.Value, depth int) bool {
	s.count++
	if s.count > api.MaxNodes || depth > maxDepth || len(v.Items) > maxItems(v.Kind) {
		return false
	}
	for _, item := range v.Items {
		if !s.holds(item, depth+1) {
			return false
		}
	}
	return true
}

// fits reports whether a value is within the limits.
func fits(v api.Value) bool {
	return new(scale).holds(v, 1)
}

// maxItems returns how many items a value of a kind may have.
func maxItems(kind int) int {
	switch kind {
	case api.VSeq, api.VSet:
		return api.MaxItems
	case api.VMap:
		return 1 + 2*maxKeys
	}
	return api.MaxNodes
}

// countTo counts the values in a value, and stops where there are more than some number.
func (s *scale) countTo(most int, v api.Value) {
	s.count++
	for _, item := range v.Items {
		if s.count > most {
			return
		}
		s.countTo(most, item)
	}
}

// returned returns a value that shares no memory with another one, which need not be within the limits. (With few datatypes a zero can be larger than all memory.)
func returned(v api.Value) (api.Value, api.Errno) {
	s := &scale{}
	if s.countTo(maxReturned, v); s.count > maxReturned {
		return api.Value{}, api.ErrLarge
	}
	return common.Clone(v), api.OK
}

// ofBool returns a bool as a value.
func ofBool(is bool) api.Value {
	if is {
		return api.Value{Kind: api.VBool, Num: "1"}
	}
	return api.Value{Kind: api.VBool, Num: "0"}
}

// isTrue reports whether a value is the bool true.
func isTrue(v api.Value) bool {
	return v.Num == "1" && v.Kind == api.VBool
}

// ofInt returns an integer as a value.
func ofInt(n string) api.Value {
	return api.Value{Kind: api.VInt, Num: n}
}

// ofCount returns a number as a value.
func ofCount(n int) api.Value {
	return ofInt(num.FromInt(n))
}

// ofReal returns the fraction of an integer as a value.
func ofReal(n string) api.Value {
	return api.Value{Kind: api.VReal, Num: n + "/1"}
}
