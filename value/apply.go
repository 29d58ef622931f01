package value

import (
	"slices"

	"entail/api"
	"entail/common"
	"entail/num"
)

// anyNumber is the number of arguments of an operation that takes any.
const anyNumber = -1

// noBits stands for the operation on bit vectors where there is none.
const noBits = -1

// calculation is an operation on two numbers.
type calculation func(a, b string) (string, api.Errno)

// operation is an operation of the language: on two numbers of one sort, and on other arguments.
type operation struct {
	op    int
	args  int
	whole calculation
	real  calculation
	bits  int
	other func([]api.Value) (api.Value, api.Errno)
}

// operations returns all operations.
func operations() []operation {
	return []operation{
		{api.ENot, 1, nil, nil, noBits, not},
		{api.ENeg, 1, nil, nil, noBits, negative},
		{api.EAdd, 2, num.Add, num.AddReal, num.BitAdd, union},
		{api.ESub, 2, num.Sub, num.SubReal, num.BitSub, difference},
		{api.EMul, 2, num.Mul, num.MulReal, num.BitMul, intersection},
		{api.EDiv, 2, quotient, num.DivReal, num.BitDiv, nil},
		{api.EMod, 2, remainder, nil, num.BitMod, nil},
		{api.EAnd, 2, nil, nil, noBits, connective(func(a, b bool) bool { return a && b })},
		{api.EOr, 2, nil, nil, noBits, connective(func(a, b bool) bool { return a || b })},
		{api.EImp, 2, nil, nil, noBits, connective(func(a, b bool) bool { return !a || b })},
		{api.EIff, 2, nil, nil, noBits, connective(func(a, b bool) bool { return a == b })},
		{api.EEq, 2, nil, nil, noBits, equation(true)},
		{api.ENe, 2, nil, nil, noBits, equation(false)},
		{api.ELt, 2, nil, nil, noBits, comparison(true)},
		{api.ELe, 2, nil, nil, noBits, comparison(false)},
		{api.EIn, 2, nil, nil, noBits, in},
		{api.EBitAnd, 2, nil, nil, num.BitAnd, nil},
		{api.EBitOr, 2, nil, nil, num.BitOr, nil},
		{api.EBitXor, 2, nil, nil, num.BitXor, nil},
		{api.EShl, 2, nil, nil, noBits, shift(num.BitShl)},
		{api.EShr, 2, nil, nil, noBits, shift(num.BitShr)},
		{api.EIndex, 2, nil, nil, noBits, index},
		{api.ESlice, 3, nil, nil, noBits, slice},
		{api.EUpdate, 3, nil, nil, noBits, update},
		{api.ECard, 1, nil, nil, noBits, cardinality},
		{api.ESeq, anyNumber, nil, nil, noBits, collector(api.VSeq)},
		{api.ESet, anyNumber, nil, nil, noBits, collector(api.VSet)},
		{api.EMulti, anyNumber, nil, nil, noBits, collector(api.VMulti)},
		{api.EMap, anyNumber, nil, nil, noBits, collector(api.VMap)},
	}
}

// wanted is the Op of an operation that is looked for.
type wanted int

func (w wanted) is(o operation) bool {
	return o.op == int(w)
}

// Apply returns the result of an operation.
func Apply(op int, l []api.Value) (api.Value, api.Errno) {
	if e := checkAll(l...); e != api.OK {
		return api.Value{}, e
	}
	table := operations()
	i := slices.IndexFunc(table, wanted(op).is)
	switch {
	case i < 0:
		return api.Value{}, api.ErrKind
	case len(l) > 2*api.MaxItems:
		return api.Value{}, api.ErrMany
	case table[i].args != anyNumber && table[i].args != len(l), op == api.EMap && len(l)%2 != 0:
		return api.Value{}, api.ErrArgs
	}
	out, e := table[i].apply(l)
	if e == api.OK {
		e = Check(out)
	}
	if e != api.OK {
		return api.Value{}, e
	}
	return common.Clone(out), api.OK
}

// sort is a kind, of bit vectors with the width.
type sort struct {
	kind  int
	width string
}

func sortOf(v api.Value) sort {
	if v.Kind == api.VBits {
		return sort{v.Kind, v.Text}
	}
	return sort{kind: v.Kind}
}

// areNumbers reports whether two values are numbers of one sort.
func areNumbers(a, b api.Value) bool {
	switch a.Kind {
	case api.VInt, api.VReal, api.VBits:
		return sortOf(a) == sortOf(b)
	}
	return false
}

// apply returns the result for as many arguments as there have to be.
func (o operation) apply(l []api.Value) (api.Value, api.Errno) {
	if len(l) == 2 && areNumbers(l[0], l[1]) {
		if calculate := o.on(l[0]); calculate != nil {
			return calculated(calculate, l[0], l[1])
		}
	}
	if o.other == nil {
		return api.Value{}, api.ErrKind
	}
	return o.other(l)
}

// on returns the operation on numbers of the sort of a number, or nil.
func (o operation) on(v api.Value) calculation {
	switch {
	case v.Kind == api.VInt:
		return o.whole
	case v.Kind == api.VReal:
		return o.real
	case o.bits == noBits:
		return nil
	}
	return func(a, b string) (string, api.Errno) { return num.Bits(o.bits, widthOf(v), a, b) }
}

// calculated returns the result of an operation on two numbers of one sort as a value of it.
func calculated(calculate calculation, a, b api.Value) (api.Value, api.Errno) {
	n, e := calculate(a.Num, b.Num)
	if e != api.OK {
		return api.Value{}, e
	}
	a.Num = n
	return a, api.OK
}

func quotient(a, b string) (string, api.Errno) {
	out, _, e := num.DivMod(a, b)
	return out, e
}

func remainder(a, b string) (string, api.Errno) {
	_, out, e := num.DivMod(a, b)
	return out, e
}

// negative subtracts a number from zero.
func negative(l []api.Value) (api.Value, api.Errno) {
	zero := l[0]
	switch zero.Kind {
	case api.VInt, api.VBits:
		zero.Num = "0"
	case api.VReal:
		zero.Num = "0/1"
	default:
		return api.Value{}, api.ErrKind
	}
	minus := operation{whole: num.Sub, real: num.SubReal, bits: num.BitSub}
	return calculated(minus.on(zero), zero, l[0])
}

func not(l []api.Value) (api.Value, api.Errno) {
	if l[0].Kind != api.VBool {
		return api.Value{}, api.ErrKind
	}
	return ofBool(!isTrue(l[0])), api.OK
}

func isTrue(v api.Value) bool {
	return v.Num == "1"
}

// connective returns an operation on two bools.
func connective(f func(a, b bool) bool) func([]api.Value) (api.Value, api.Errno) {
	return func(l []api.Value) (api.Value, api.Errno) {
		if l[0].Kind != api.VBool || l[1].Kind != api.VBool {
			return api.Value{}, api.ErrKind
		}
		return ofBool(f(isTrue(l[0]), isTrue(l[1]))), api.OK
	}
}

// equation returns the operation that compares any two values: it is true if they are equal or not, as is wanted.
func equation(equal bool) func([]api.Value) (api.Value, api.Errno) {
	return func(l []api.Value) (api.Value, api.Errno) {
		return ofBool(isEqual(l[0], l[1]) == equal), api.OK
	}
}

// comparison returns the operation that says whether its first argument is less, or, unless it is strict, equal.
func comparison(strict bool) func([]api.Value) (api.Value, api.Errno) {
	return func(l []api.Value) (api.Value, api.Errno) {
		a, b := l[0], l[1]
		var less bool
		switch {
		case areNumbers(a, b):
			less = element{a}.compare(element{b}) <= 0
		case a.Kind != b.Kind:
			return api.Value{}, api.ErrKind
		case a.Kind == api.VSeq:
			less = len(a.Items) <= len(b.Items) && slices.EqualFunc(a.Items, b.Items[:len(a.Items)], isEqual)
		case a.Kind == api.VSet || a.Kind == api.VMulti:
			less = len(without(a.Items, b.Items)) == 0
		default:
			return api.Value{}, api.ErrKind
		}
		return ofBool(less && !(strict && isEqual(a, b))), api.OK
	}
}

// shift returns an operation that shifts bit vectors.
func shift(op int) func([]api.Value) (api.Value, api.Errno) {
	return func(l []api.Value) (api.Value, api.Errno) {
		v, by := l[0], l[1]
		if v.Kind != api.VBits || by.Kind != api.VBits && by.Kind != api.VInt {
			return api.Value{}, api.ErrKind
		}
		if isNegative(by) {
			return api.Value{}, api.ErrRange
		}
		if order, _ := num.Compare(by.Num, v.Text); order >= 0 {
			v.Num = "0"
			return v, api.OK
		}
		n, e := num.Bits(op, widthOf(v), v.Num, by.Num)
		v.Num = n
		return v, e
	}
}

// isNegative reports whether an int is below zero.
func isNegative(v api.Value) bool {
	return v.Num[0] == '-'
}
