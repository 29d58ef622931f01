package value

import (
	"math/big"
	"math/rand"
	"slices"
	"strings"
	"testing"

	"entail/api"
)

// applied is an operation on values, with its result.
type applied struct {
	op   int
	args []string
	want string
}

// checkApplied compares the results of operations with those that they have to have.
func checkApplied(t *testing.T, list []applied) {
	t.Helper()
	for _, c := range list {
		got, e := Apply(c.op, all(c.args...))
		if e != api.OK || text(got) != c.want {
			t.Errorf("Apply(%d, %q): %s, %d, want %s", c.op, c.args, text(got), e, c.want)
		}
	}
}

func list(s ...string) []string {
	return s
}

// TestNumbers is for P6.3: operations on numbers.
func TestNumbers(t *testing.T) {
	checkApplied(t, []applied{
		{api.ENeg, list("5"), "-5"}, {api.ENeg, list("0"), "0"}, {api.ENeg, list("-1/2"), "1/2"}, {api.ENeg, list("0/1"), "0/1"}, {api.ENeg, list("1bv8"), "255bv8"}, {api.ENeg, list("0bv8"), "0bv8"}, {api.ENeg, list("1bv64"), "18446744073709551615bv64"}, {api.ENeg, list("1bv1"), "1bv1"},
		{api.EAdd, list("99", "1"), "100"}, {api.EAdd, list("1/2", "1/3"), "5/6"}, {api.EAdd, list("200bv8", "100bv8"), "44bv8"}, {api.EAdd, list("1bv1", "1bv1"), "0bv1"},
		{api.ESub, list("5", "12"), "-7"}, {api.ESub, list("1/2", "1/3"), "1/6"}, {api.ESub, list("1bv8", "2bv8"), "255bv8"},
		{api.EMul, list("-12", "12"), "-144"}, {api.EMul, list("2/3", "3/2"), "1/1"}, {api.EMul, list("16bv8", "17bv8"), "16bv8"},
		{api.EDiv, list("-7", "2"), "-4"}, {api.EDiv, list("-7", "-2"), "4"}, {api.EDiv, list("7", "-2"), "-3"}, {api.EDiv, list("1/2", "-3/4"), "-2/3"}, {api.EDiv, list("200bv8", "3bv8"), "66bv8"},
		{api.EMod, list("-7", "2"), "1"}, {api.EMod, list("-7", "-2"), "1"}, {api.EMod, list("7", "-2"), "1"}, {api.EMod, list("200bv8", "3bv8"), "2bv8"},
		{api.EBitAnd, list("12bv8", "10bv8"), "8bv8"}, {api.EBitOr, list("12bv8", "10bv8"), "14bv8"}, {api.EBitXor, list("12bv8", "10bv8"), "6bv8"},
		{api.EShl, list("1bv8", "8"), "0bv8"}, {api.EShl, list("3bv8", "7"), "128bv8"}, {api.EShl, list("3bv8", "0"), "3bv8"}, {api.EShl, list("3bv8", "2bv4"), "12bv8"}, {api.EShl, list("3bv8", "200bv8"), "0bv8"}, {api.EShl, list("1bv64", "63bv64"), "9223372036854775808bv64"}, {api.EShl, list("1bv8", strings.Repeat("9", 120)), "0bv8"}, {api.EShl, list("1bv1", "0bv64"), "1bv1"}, {api.EShl, list("1bv1", "1bv64"), "0bv1"}, {api.EShl, list("3bv2", "1"), "2bv2"},
		{api.EShr, list("200bv8", "3"), "25bv8"}, {api.EShr, list("200bv8", "8"), "0bv8"}, {api.EShr, list("200bv8", "1bv1"), "100bv8"}, {api.EShr, list("3bv2", "2bv2"), "0bv2"},
		{api.ELt, list("-2", "10"), "true"}, {api.ELt, list("2", "2"), "false"}, {api.ELt, list("3", "2"), "false"}, {api.ELe, list("2", "2"), "true"}, {api.ELe, list("10", "9"), "false"}, {api.ELt, list("1/3", "1/2"), "true"}, {api.ELe, list("1/2", "1/3"), "false"}, {api.ELe, list("1/2", "1/2"), "true"}, {api.ELt, list("9bv8", "10bv8"), "true"}, {api.ELe, list("10bv8", "9bv8"), "false"},
	})
}

// TestBools is for P6.3: operations on bools, and equations of any values.
func TestBools(t *testing.T) {
	checkApplied(t, []applied{{api.ENot, list("true"), "false"}, {api.ENot, list("false"), "true"}})
	for op, want := range map[int]string{api.EAnd: "false false false true", api.EOr: "false true true true", api.EImp: "true true false true", api.EIff: "true false false true", api.EEq: "true false false true", api.ENe: "false true true false"} {
		for i, result := range strings.Fields(want) {
			checkApplied(t, []applied{{op, list([]string{"false", "true"}[i/2], []string{"false", "true"}[i%2]), result}})
		}
	}
	for i, a := range ascending {
		for j, b := range ascending {
			checkApplied(t, []applied{{api.EEq, list(a, b), text(ofBool(i == j))}, {api.ENe, list(a, b), text(ofBool(i != j))}})
		}
	}
}

// TestCollections is for P6.3: operations on collections.
func TestCollections(t *testing.T) {
	checkApplied(t, []applied{
		{api.EAdd, list("[1, 2]", "[2, 3]"), "[1, 2, 2, 3]"}, {api.EAdd, list("[]", "[]"), "[]"}, {api.EAdd, list("{1, 3}", "{2, 3}"), "{1, 2, 3}"}, {api.EAdd, list("multiset{1, 1}", "multiset{1, 2}"), "multiset{1, 1, 1, 2}"}, {api.EAdd, list("map[1 := true]", "map[1 := false, 2 := true]"), "map[1 := false, 2 := true]"}, {api.EAdd, list("map[2 := 0]", "map[1 := 5]"), "map[1 := 5, 2 := 0]"},
		{api.ESub, list("{1, 2, 3}", "{0, 2}"), "{1, 3}"}, {api.ESub, list("multiset{1, 1, 1, 2}", "multiset{1, 2, 2, 3}"), "multiset{1, 1}"}, {api.ESub, list("map[1 := 2, 3 := 4, 5 := 6]", "{1, 4, 5}"), "map[3 := 4]"}, {api.ESub, list("map[]", "{1}"), "map[]"},
		{api.EMul, list("{1, 2, 3}", "{0, 2, 3}"), "{2, 3}"}, {api.EMul, list("multiset{1, 1, 1, 2}", "multiset{1, 1, 2, 2, 3}"), "multiset{1, 1, 2}"},
		{api.ELt, list("[1, 2]", "[1, 2, 3]"), "true"}, {api.ELt, list("[1, 2]", "[1, 2]"), "false"}, {api.ELe, list("[1, 2]", "[1, 2]"), "true"}, {api.ELe, list("[]", "[1]"), "true"}, {api.ELe, list("[2]", "[1, 2]"), "false"}, {api.ELe, list("[1, 2]", "[1]"), "false"}, {api.ELt, list("[0]", "[1]"), "false"},
		{api.ELe, list("{1, 3}", "{1, 2, 3}"), "true"}, {api.ELt, list("{1, 3}", "{1, 2, 3}"), "true"}, {api.ELt, list("{1}", "{1}"), "false"}, {api.ELe, list("{1}", "{1}"), "true"}, {api.ELe, list("{1, 4}", "{1, 2, 3}"), "false"}, {api.ELe, list("{1, 2}", "{1}"), "false"}, {api.ELt, list("{}", "{}"), "false"},
		{api.ELe, list("multiset{1, 1}", "multiset{1, 1, 2}"), "true"}, {api.ELe, list("multiset{1, 1}", "multiset{1, 2, 3}"), "false"}, {api.ELt, list("multiset{1, 2}", "multiset{1, 2}"), "false"}, {api.ELt, list("multiset{2}", "multiset{1, 2}"), "true"},
		{api.EIn, list("2", "[1, 2]"), "true"}, {api.EIn, list("3", "[1, 2]"), "false"}, {api.EIn, list("2", "{1, 2}"), "true"}, {api.EIn, list("[1]", "multiset{[1], [1]}"), "true"}, {api.EIn, list("1", "map[1 := 2]"), "true"}, {api.EIn, list("2", "map[1 := 2]"), "false"}, {api.EIn, list("true", "{1}"), "false"}, {api.EIn, list("1/1", "[1]"), "false"},
		{api.EIndex, list("[4, 5]", "0"), "4"}, {api.EIndex, list("[4, 5]", "1"), "5"}, {api.EIndex, list("map[true := [3], 1 := 2]", "true"), "[3]"}, {api.EIndex, list("map[1 := 2, 3 := 4]", "3"), "4"}, {api.EIndex, list("multiset{1, 1, 2}", "1"), "2"}, {api.EIndex, list("multiset{1, 1, 2}", "3"), "0"}, {api.EIndex, list("multiset{1}", "1/1"), "0"},
		{api.ESlice, list("[1, 2, 3]", "0", "3"), "[1, 2, 3]"}, {api.ESlice, list("[1, 2, 3]", "1", "2"), "[2]"}, {api.ESlice, list("[1, 2, 3]", "3", "3"), "[]"}, {api.ESlice, list("[]", "0", "0"), "[]"},
		{api.EUpdate, list("[1, 2]", "1", "5"), "[1, 5]"}, {api.EUpdate, list("[1]", "0", "[]"), "[[]]"}, {api.EUpdate, list("map[1 := 2]", "1", "3"), "map[1 := 3]"}, {api.EUpdate, list("map[2 := 2]", "1", "3"), "map[1 := 3, 2 := 2]"}, {api.EUpdate, list("multiset{1, 3}", "2", "2"), "multiset{1, 2, 2, 3}"}, {api.EUpdate, list("multiset{1, 1, 1}", "1", "1"), "multiset{1}"}, {api.EUpdate, list("multiset{1, 1, 2}", "1", "0"), "multiset{2}"}, {api.EUpdate, list("multiset{}", "1", "200"), "multiset{" + strings.TrimSuffix(strings.Repeat("1, ", 200), ", ") + "}"},
		{api.ECard, list("[1, 1]"), "2"}, {api.ECard, list("{}"), "0"}, {api.ECard, list("multiset{1, 1, 2}"), "3"}, {api.ECard, list("map[1 := 2, 3 := 4]"), "2"},
		{api.ESeq, list(), "[]"}, {api.ESeq, list("2", "1", "2"), "[2, 1, 2]"}, {api.ESet, list(), "{}"}, {api.ESet, list("2", "1", "2", "1/2"), "{1, 2, 1/2}"}, {api.EMulti, list("2", "1", "2"), "multiset{1, 2, 2}"}, {api.EMulti, list(), "multiset{}"}, {api.EMap, list(), "map[]"}, {api.EMap, list("2", "5", "1", "4", "2", "6"), "map[1 := 4, 2 := 6]"}, {api.EMap, list("1", "1", "1", "2", "1", "3", "0", "0"), "map[0 := 0, 1 := 3]"},
	})
}

// sampleOf are values of all sorts, one or two of each.
var sampleOf = []string{"true", "1", "-2", "1/2", "1bv8", "1bv4", "[1]", "{1}", "multiset{1}", "map[1 := 1]", "A(1)", "#1"}

// kindsOfArguments are, for each operation, the kinds that its arguments may have: b bool, i int, r real, v bit vectors (w of any widths), q sequence, s set, m multiset, p map, any value a dot.
var kindsOfArguments = map[int]string{
	api.ENot: "b", api.ENeg: "i r v", api.EAdd: "ii rr vv qq ss mm pp", api.ESub: "ii rr vv ss mm ps", api.EMul: "ii rr vv ss mm", api.EDiv: "ii rr vv", api.EMod: "ii vv", api.EAnd: "bb", api.EOr: "bb", api.EImp: "bb", api.EIff: "bb", api.EEq: "..", api.ENe: "..",
	api.ELt: "ii rr vv qq ss mm", api.ELe: "ii rr vv qq ss mm", api.EIn: ".q .s .m .p", api.EBitAnd: "vv", api.EBitOr: "vv", api.EBitXor: "vv", api.EShl: "ww wi", api.EShr: "ww wi", api.EIndex: "qi p. m.", api.ESlice: "qii", api.EUpdate: "qi. p.. m.i", api.ECard: "q s m p",
	api.ESeq: "*", api.ESet: "*", api.EMulti: "*", api.EMap: "*",
}

// fits reports whether values are of the kinds of a form.
func fits(form string, l []api.Value) bool {
	if len(form) != len(l) {
		return false
	}
	letters := map[int]byte{api.VBool: 'b', api.VInt: 'i', api.VReal: 'r', api.VBits: 'v', api.VSeq: 'q', api.VSet: 's', api.VMulti: 'm', api.VMap: 'p'}
	for i, v := range l {
		letter := letters[v.Kind]
		if form[i] == 'w' && letter == 'v' {
			continue
		}
		if form[i] != '.' && form[i] != letter || form[i] == 'v' && v.Text != l[0].Text {
			return false
		}
	}
	return true
}

// TestKinds is for P6.3: which operations take which values, for all Ops and all kinds, and how many.
func TestKinds(t *testing.T) {
	samples := all(sampleOf...)
	var lists [][]api.Value
	lists = append(lists, nil)
	for _, a := range samples {
		lists = append(lists, []api.Value{a})
		for _, b := range samples {
			lists = append(lists, []api.Value{a, b})
			for _, c := range samples {
				lists = append(lists, []api.Value{a, b, c})
			}
		}
	}
	for op := -2; op < api.Ops+2; op++ {
		forms, found := kindsOfArguments[op]
		for _, l := range lists {
			_, e := Apply(op, l)
			isKind := e == api.ErrKind
			switch {
			case !found:
				if !isKind {
					t.Errorf("Apply(%d, %s): %d", op, show(l), e)
				}
			case forms == "*":
				if want := op == api.EMap && len(l)%2 != 0; want != (e == api.ErrArgs) || isKind {
					t.Errorf("Apply(%d, %s): %d", op, show(l), e)
				}
			case len(l) != len(strings.Fields(forms)[0]):
				if e != api.ErrArgs {
					t.Errorf("Apply(%d, %s): %d, want ErrArgs", op, show(l), e)
				}
			default:
				if want := slices.ContainsFunc(strings.Fields(forms), func(form string) bool { return fits(form, l) }); want == isKind {
					t.Errorf("Apply(%d, %s): %d", op, show(l), e)
				}
			}
		}
	}
}

// TestApplyErrors is for P6.3: the errors in their order.
func TestApplyErrors(t *testing.T) {
	nines := strings.Repeat("9", 120)
	many := func(n int) []api.Value { return slices.Repeat(all("1"), n) }
	for i, c := range []struct {
		op   int
		l    []api.Value
		want api.Errno
	}{
		{api.ECall, all("01"), api.ErrForm}, {api.EAdd, all("1", "{1, 1}"), api.ErrOrder}, {api.EAdd, all("01", "{1, 1}"), api.ErrForm}, {api.ENot, append(many(401), of("01")), api.ErrForm},
		{api.ECall, many(401), api.ErrKind}, {api.EInt, nil, api.ErrKind}, {api.EAs, all("1", "2"), api.ErrKind}, {api.EIf, all("true", "1", "2"), api.ErrKind}, {api.ENot, many(401), api.ErrMany}, {api.ESeq, many(401), api.ErrMany}, {api.EMap, many(401), api.ErrMany}, {api.ESet, many(400), api.OK}, {api.EMap, many(400), api.OK}, {api.EMap, many(399), api.ErrArgs}, {api.ENot, many(400), api.ErrArgs}, {api.ENot, nil, api.ErrArgs},
		{api.EDiv, all("1", "0"), api.ErrDivide}, {api.EDiv, all("0/1", "0/1"), api.ErrDivide}, {api.EDiv, all("1bv8", "0bv8"), api.ErrDivide}, {api.EMod, all("1", "0"), api.ErrDivide}, {api.EMod, all("1bv8", "0bv8"), api.ErrDivide},
		{api.EIndex, all("[1]", "1"), api.ErrIndex}, {api.EIndex, all("[1]", "-1"), api.ErrIndex}, {api.EIndex, all("[]", "0"), api.ErrIndex}, {api.EIndex, all("[1]", nines), api.ErrIndex}, {api.EIndex, all("[1]", "-"+nines), api.ErrIndex},
		{api.EUpdate, all("[1]", "1", "2"), api.ErrIndex}, {api.EUpdate, all("[1]", "-1", "2"), api.ErrIndex}, {api.EUpdate, all("[1]", nines, "2"), api.ErrIndex},
		{api.ESlice, all("[1]", "1", "0"), api.ErrIndex}, {api.ESlice, all("[1]", "0", "2"), api.ErrIndex}, {api.ESlice, all("[1]", "-1", "1"), api.ErrIndex}, {api.ESlice, all("[1]", "2", "2"), api.ErrIndex}, {api.ESlice, all("[1]", "0", nines), api.ErrIndex}, {api.ESlice, all("[1]", nines, nines), api.ErrIndex}, {api.ESlice, all("[1]", "-1", "-1"), api.ErrIndex}, {api.ESlice, all("[]", "0", "-1"), api.ErrIndex},
		{api.EIndex, all("map[1 := 2]", "2"), api.ErrKey}, {api.EIndex, all("map[]", "1/1"), api.ErrKey},
		{api.EShl, all("1bv8", "-1"), api.ErrRange}, {api.EShr, all("1bv8", "-1"), api.ErrRange}, {api.EShr, all("1bv8", "-"+nines), api.ErrRange}, {api.EUpdate, all("multiset{}", "1", "-1"), api.ErrRange}, {api.EUpdate, all("multiset{}", "1", "-"+nines), api.ErrRange},
		{api.EAdd, all(nines, "1"), api.ErrLarge}, {api.EMul, all(nines, "2"), api.ErrLarge}, {api.ESub, all("-"+nines, "1"), api.ErrLarge}, {api.EAdd, all(nines+"/1", "1/1"), api.ErrLarge}, {api.EAdd, all("1/"+nines, "1/16"), api.ErrLarge}, {api.EDiv, all(nines+"/1", "1/2"), api.ErrLarge}, {api.EDiv, all(nines, "-1"), api.OK}, {api.ENeg, all("-" + nines), api.OK},
		{api.ESeq, many(200), api.OK}, {api.ESeq, many(201), api.ErrMany}, {api.EMulti, many(201), api.ErrMany}, {api.EMulti, many(200), api.OK}, {api.ESet, row(200).Items, api.OK}, {api.EAdd, []api.Value{row(200), of("[]")}, api.OK}, {api.EAdd, []api.Value{row(200), of("[1]")}, api.ErrMany},
		{api.EUpdate, all("multiset{}", "1", "201"), api.ErrMany}, {api.EUpdate, all("multiset{2}", "1", "200"), api.ErrMany}, {api.EUpdate, all("multiset{1}", "1", "200"), api.OK}, {api.EUpdate, all("multiset{}", "1", nines), api.ErrMany},
		{api.ESeq, []api.Value{nested(59, of("1"))}, api.ErrDeep}, {api.ESeq, []api.Value{nested(58, of("1"))}, api.OK}, {api.EUpdate, []api.Value{of("[1]"), of("0"), nested(59, of("1"))}, api.ErrDeep}, {api.EMap, []api.Value{of("1"), nested(59, of("1"))}, api.ErrDeep},
		{api.ESeq, []api.Value{large(3999)}, api.OK}, {api.ESeq, []api.Value{large(4000)}, api.ErrLarge}, {api.ESeq, []api.Value{large(2000), large(2000)}, api.ErrLarge}, {api.EAdd, []api.Value{large(4000), of("[1]")}, api.ErrLarge}, {api.EMap, []api.Value{large(2000), large(1999)}, api.OK},
	} {
		got, e := Apply(c.op, c.l)
		if e != c.want || e != api.OK && !isNothing(got) {
			t.Errorf("%d: Apply(%d): %.40s, %d, want %d", i, c.op, text(got), e, c.want)
		}
	}
}

// entriesOf returns a map with some keys.
func entriesOf(from, n int) api.Value {
	out := api.Value{Kind: api.VMap}
	for i := range n {
		out.Items = append(out.Items, ofInt(from+i), of("0"))
	}
	return out
}

// TestUnionLimits is for P6.3: unions have at most 200 elements, of maps keys; those of both are counted once.
func TestUnionLimits(t *testing.T) {
	set := func(from, n int) api.Value {
		return api.Value{Kind: api.VSet, Items: row(from + n).Items[from:]}
	}
	for i, c := range []struct {
		a, b api.Value
		want api.Errno
	}{
		{entriesOf(0, 100), entriesOf(100, 100), api.OK}, {entriesOf(0, 101), entriesOf(101, 100), api.ErrMany}, {entriesOf(0, 200), entriesOf(0, 200), api.OK}, {entriesOf(0, 200), entriesOf(200, 1), api.ErrMany},
		{set(0, 150), set(100, 100), api.OK}, {set(0, 150), set(100, 101), api.ErrMany}, {set(0, 200), set(0, 200), api.OK},
	} {
		if got, e := Apply(api.EAdd, []api.Value{c.a, c.b}); e != c.want {
			t.Errorf("%d: %.40s, %d, want %d", i, text(got), e, c.want)
		}
	}
	if got, e := Apply(api.EUpdate, []api.Value{entriesOf(0, 200), of("200"), of("0")}); e != api.ErrMany {
		t.Errorf("one key more: %.40s, %d", text(got), e)
	}
	if got, e := Apply(api.EUpdate, []api.Value{entriesOf(0, 200), of("199"), of("7")}); e != api.OK || len(got.Items) != 400 || text(got.Items[399]) != "7" {
		t.Errorf("the last key: %.40s, %d", text(got), e)
	}
}

// TestIntLaws is for P6.5: ints are those of math/big, and bit vectors those modulo a power of two.
func TestIntLaws(t *testing.T) {
	r := rand.New(rand.NewSource(64))
	for range 2000 {
		a, b := big.NewInt(r.Int63n(2000)-1000), big.NewInt(r.Int63n(200)-100)
		if b.Sign() == 0 {
			continue
		}
		for op, want := range map[int]*big.Int{api.EAdd: new(big.Int).Add(a, b), api.ESub: new(big.Int).Sub(a, b), api.EMul: new(big.Int).Mul(a, b), api.EDiv: new(big.Int).Div(a, b), api.EMod: new(big.Int).Mod(a, b)} {
			checkApplied(t, []applied{{op, list(a.String(), b.String()), want.String()}})
		}
		x, y := uint8(r.Intn(256)), uint8(r.Intn(255)+1)
		bits := func(n uint8) string { return ofInt(int(n)).Num + "bv8" }
		for op, want := range map[int]uint8{api.EAdd: x + y, api.ESub: x - y, api.EMul: x * y, api.EDiv: x / y, api.EMod: x % y, api.EBitAnd: x & y, api.EBitOr: x | y, api.EBitXor: x ^ y, api.EShl: x << y, api.EShr: x >> y} {
			checkApplied(t, []applied{{op, list(bits(x), bits(y)), bits(want)}})
		}
	}
}
