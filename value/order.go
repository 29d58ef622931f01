package value

import (
	"cmp"
	"slices"
	"strings"

	"entail/api"
	"entail/common"
	"entail/num"
)

// element is a value as one of others that it is compared with.
type element struct {
	api.Value
}

// elements returns values as elements.
func elements(l []api.Value) []element {
	return common.Transform(l, func(v api.Value) element { return element{v} })
}

// compare returns the order of two values whose numbers are well-formed.
func (a element) compare(b element) int {
	for _, by := range [...]func(element, element) int{element.compareKinds, element.compareNumbers, element.compareItems} {
		if order := by(a, b); order != 0 {
			return order
		}
	}
	return 0
}

// compareKinds compares the kinds, the widths of bit vectors, and the names of constructors.
func (a element) compareKinds(b element) int {
	if order := cmp.Compare(a.Kind, b.Kind); order != 0 || a.Text == b.Text {
		return order
	}
	if a.Kind == api.VBits {
		return cmp.Compare(widthOf(a.Value), widthOf(b.Value))
	}
	return strings.Compare(a.Text, b.Text)
}

// compareNumbers compares the numbers of two values of one kind, if they have any.
func (a element) compareNumbers(b element) int {
	if a.Num == b.Num {
		return 0
	}
	compare := num.Compare
	if a.Kind == api.VReal {
		compare = num.CompareReal
	}
	order, _ := compare(a.Num, b.Num)
	return order
}

func (a element) compareItems(b element) int {
	if order := cmp.Compare(len(a.Items), len(b.Items)); order != 0 {
		return order
	}
	return slices.CompareFunc(elements(a.Items), elements(b.Items), element.compare)
}

// sorted returns a copy of values in ascending order.
func sorted(l []api.Value) []api.Value {
	list := elements(l)
	slices.SortStableFunc(list, element.compare)
	return common.Transform(list, func(e element) api.Value { return e.Value })
}

// isEqual reports whether two values are equal.
func isEqual(a, b api.Value) bool {
	return element{a}.compare(element{b}) == 0
}
