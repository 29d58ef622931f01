package calls

import (
	"entail/api"
	"entail/common"
	"entail/num"
	"entail/value"
)

// The greatest length of a list of values, and the greatest rank.
const (
	maxValues = 20
	maxRank   = 10000
)

// order says which values of a kind are below others of this kind, and how many can follow a value.
type order struct {
	below func(a, b api.Value) bool
	rank  func(api.Value) string
}

// orders returns the order of each kind.
func orders() [api.Kinds]order {
	collection := order{fewer, func(v api.Value) string { return num.FromInt(elements(v)) }}
	return [api.Kinds]order{
		api.VBool:  {lessBool, number},
		api.VInt:   {lessInt, number},
		api.VReal:  {lessReal, rankReal},
		api.VBits:  {lessBits, number},
		api.VSeq:   collection,
		api.VSet:   collection,
		api.VMulti: collection,
		api.VMap:   collection,
		api.VCons:  {lower, func(v api.Value) string { return num.FromInt(height(v)) }},
		api.VRef:   {func(a, b api.Value) bool { return false }, func(api.Value) string { return "0" }},
	}
}

// smaller reports whether the number of one value is less than that of another one.
func smaller(a, b api.Value) bool {
	order, _ := num.Compare(a.Num, b.Num)
	return order < 0
}

func number(v api.Value) string {
	return v.Num
}

// lessBool reports whether the values are false and true.
func lessBool(a, b api.Value) bool {
	return [2]string{a.Num, b.Num} == [2]string{"0", "1"}
}

func lessInt(a, b api.Value) bool {
	return smaller(a, b) && !isNegative(b)
}

func isNegative(v api.Value) bool {
	return v.Num[0] == '-'
}

// lessReal reports whether a real is less by 1 at least than another one that is not negative.
func lessReal(a, b api.Value) bool {
	greatest, e := num.SubReal(b.Num, "1/1")
	if e != api.OK || isNegative(b) {
		return false
	}
	order, _ := num.CompareReal(a.Num, greatest)
	return order <= 0
}

// rankReal returns the floor and 1.
func rankReal(v api.Value) string {
	floor, _ := num.Floor(v.Num)
	rank, e := num.Add(floor, "1")
	if e != api.OK {
		return floor // which is far too large, too
	}
	return rank
}

func lessBits(a, b api.Value) bool {
	return a.Text == b.Text && smaller(a, b)
}

func fewer(a, b api.Value) bool {
	return elements(a) < elements(b)
}

// elements returns the number of elements of a collection, of a map that of its keys.
func elements(v api.Value) int {
	if v.Kind == api.VMap {
		return len(v.Items) / 2
	}
	return len(v.Items)
}

func lower(a, b api.Value) bool {
	return height(a) < height(b)
}

func height(v api.Value) int {
	out, _ := value.Height(v)
	return out
}

// less reports whether a value is below another one.
func less(a, b api.Value) bool {
	return a.Kind == b.Kind && orders()[a.Kind].below(a, b)
}

// Less reports whether a value is below another one in the well-founded order of measures.
func Less(a, b api.Value) (bool, api.Errno) {
	if e := common.First(value.Check(a), value.Check(b)); e != api.OK {
		return false, e
	}
	return less(a, b), api.OK
}

// Below reports whether a list of values is below another one lexicographically.
func Below(a, b []api.Value) (bool, api.Errno) {
	if len(a) > maxValues || len(b) > maxValues {
		return false, api.ErrMany
	}
	for _, l := range [][]api.Value{a, b} {
		if e := common.First(common.Transform(l, value.Check)...); e != api.OK {
			return false, e
		}
	}
	for i := range min(len(a), len(b)) {
		if order, _ := value.Compare(a[i], b[i]); order != 0 {
			return less(a[i], b[i]), api.OK
		}
	}
	return len(a) > len(b), api.OK
}

// Rank returns the height of a value in the well-founded order, at most 10000.
func Rank(v api.Value) (int, api.Errno) {
	if e := value.Check(v); e != api.OK {
		return 0, e
	}
	rank := orders()[v.Kind].rank(v)
	n, e := num.ToInt(rank)
	switch {
	case rank[0] == '-':
		return 0, api.OK
	case e != api.OK || n > maxRank:
		return 0, api.ErrLarge
	}
	return n, api.OK
}
