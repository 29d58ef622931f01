package model

import (
	"math/big"
	"slices"
	"strconv"
	"strings"
	"testing"

	"entail/api"
	"entail/term"
)

// applied returns the result of a function that has one, which is a value of its sort.
func applied(t *testing.T, sig api.Signature, m Model, name string, args ...api.Value) api.Value {
	t.Helper()
	v, e := Apply(sig, m, name, args)
	if e != api.OK {
		t.Fatalf("Apply of %s to %s: %d", name, showAll(args), e)
	}
	f, _ := term.Function(sig, name)
	if is, e := HasSort(sig, m, f.Sort, v); !is || e != api.OK {
		t.Fatalf("Apply of %s to %s: %s is not of the sort %s, %d", name, showAll(args), shown(v), f.Sort, e)
	}
	return v
}

// TestApply is for P12.2: the functions of the signature, and the interpreted ones.
func TestApply(t *testing.T) {
	sig := sigOf("E", []string{"L = nil | cons head:E tail:L", "P = p x:Int y:Seq<L>"}, []string{"c -> E", "f E -> E", "g Int Bool -> Int"})
	m := Model{Universes: []Universe{{"E", 3}}, Tables: []Table{
		{"c", []Entry{{nil, ref(2)}}, ref(1)},
		{"f", []Entry{{[]api.Value{ref(0)}, ref(1)}, {[]api.Value{ref(2)}, ref(2)}}, ref(0)},
		{"g", []Entry{{[]api.Value{integer("5"), truth(true)}, integer("6")}}, integer("7")},
	}}
	list := cons("cons", ref(1), cons("cons", ref(2), cons("nil")))
	abc := seq(numbers(4, 6)...)
	for _, c := range []struct {
		name string
		args []api.Value
		want api.Value
	}{
		{"c", nil, ref(2)}, {"f", []api.Value{ref(0)}, ref(1)}, {"f", []api.Value{ref(1)}, ref(0)}, {"f", []api.Value{ref(2)}, ref(2)},
		{"g", []api.Value{integer("5"), truth(true)}, integer("6")}, {"g", []api.Value{integer("5"), truth(false)}, integer("7")}, {"g", []api.Value{integer("50"), truth(true)}, integer("7")},
		{"nil", nil, cons("nil")}, {"cons", []api.Value{ref(1), cons("nil")}, cons("cons", ref(1), cons("nil"))},
		{"head", []api.Value{list}, ref(1)}, {"tail", []api.Value{list}, list.Items[1]}, {"head", []api.Value{cons("nil")}, ref(0)}, {"tail", []api.Value{cons("nil")}, cons("nil")},
		{"is$nil", []api.Value{list}, truth(false)}, {"is$cons", []api.Value{list}, truth(true)}, {"is$nil", []api.Value{cons("nil")}, truth(true)}, {"y", []api.Value{cons("p", integer("3"), seq(list))}, seq(list)},
		{"div$Int", numbers(7, 8), integer("0")}, {"mod$Int", numbers(7, 8), integer("7")}, {"div$Int", []api.Value{integer("-7"), integer("2")}, integer("-4")}, {"mod$Int", []api.Value{integer("-7"), integer("2")}, integer("1")},
		{"div$Int", []api.Value{integer("7"), integer("-2")}, integer("-3")}, {"mod$Int", []api.Value{integer("7"), integer("-2")}, integer("1")}, {"div$Int", []api.Value{integer("7"), integer("0")}, integer("0")}, {"mod$Int", []api.Value{integer("7"), integer("0")}, integer("0")},
		{"floor$Real", []api.Value{fraction("-1/2")}, integer("-1")}, {"floor$Real", []api.Value{fraction("7/2")}, integer("3")}, {"real$Int", []api.Value{integer("-3")}, fraction("-3/1")},
		{"len$Seq<Int>", []api.Value{abc}, integer("3")}, {"len$Seq<Int>", []api.Value{seq()}, integer("0")}, {"empty$Seq<Int>", nil, seq()}, {"one$Seq<Int>", numbers(4, 4), seq(integer("4"))},
		{"at$Seq<Int>", []api.Value{abc, integer("0")}, integer("4")}, {"at$Seq<Int>", []api.Value{abc, integer("2")}, integer("6")}, {"at$Seq<Int>", []api.Value{abc, integer("3")}, integer("0")}, {"at$Seq<Int>", []api.Value{abc, integer("-1")}, integer("0")}, {"at$Seq<Int>", []api.Value{abc, integer(strings.Repeat("9", 100))}, integer("0")},
		{"at$Seq<L>", []api.Value{seq(list), integer("1")}, cons("nil")},
		{"cat$Seq<Int>", []api.Value{abc, seq(numbers(1, 1)...)}, seq(append(numbers(4, 6), integer("1"))...)}, {"cat$Seq<Int>", []api.Value{seq(), abc}, abc},
		{"put$Seq<Int>", []api.Value{abc, integer("1"), integer("9")}, seq(integer("4"), integer("9"), integer("6"))}, {"put$Seq<Int>", []api.Value{abc, integer("3"), integer("9")}, abc}, {"put$Seq<Int>", []api.Value{abc, integer("-1"), integer("9")}, abc}, {"put$Seq<Int>", []api.Value{abc, integer("1" + strings.Repeat("0", 30)), integer("9")}, abc},
		{"cut$Seq<Int>", []api.Value{abc, integer("1"), integer("9")}, seq(numbers(5, 6)...)}, {"cut$Seq<Int>", []api.Value{abc, integer("-3"), integer("1")}, seq(numbers(4, 4)...)}, {"cut$Seq<Int>", []api.Value{abc, integer("2"), integer("1")}, seq()}, {"cut$Seq<Int>", []api.Value{abc, integer("1"), integer("2")}, seq(numbers(5, 5)...)}, {"cut$Seq<Int>", []api.Value{abc, integer("0"), integer("3")}, abc}, {"cut$Seq<Int>", []api.Value{abc, integer("5"), integer("9")}, seq()}, {"cut$Seq<Int>", []api.Value{abc, integer("0"), integer("-1")}, seq()},
		{"cut$Seq<Int>", []api.Value{abc, integer("-" + strings.Repeat("9", 50)), integer(strings.Repeat("9", 50))}, abc}, {"cut$Seq<Int>", []api.Value{abc, integer(strings.Repeat("9", 50)), integer(strings.Repeat("9", 50))}, seq()}, {"cut$Seq<Int>", []api.Value{abc, integer("1"), integer("1")}, seq()},
		{"pre$Seq<Int>", []api.Value{seq(), abc}, truth(true)}, {"pre$Seq<Int>", []api.Value{abc, abc}, truth(true)}, {"pre$Seq<Int>", []api.Value{seq(numbers(4, 5)...), abc}, truth(true)}, {"pre$Seq<Int>", []api.Value{seq(numbers(5, 6)...), abc}, truth(false)}, {"pre$Seq<Int>", []api.Value{abc, seq(numbers(4, 5)...)}, truth(false)},
		{"diff$Seq<Int>", []api.Value{abc, abc}, integer("0")}, {"diff$Seq<Int>", []api.Value{abc, seq(numbers(4, 5)...)}, integer("2")}, {"diff$Seq<Int>", []api.Value{seq(), abc}, integer("0")}, {"diff$Seq<Int>", []api.Value{abc, seq(integer("4"), integer("4"))}, integer("1")}, {"diff$Seq<Int>", []api.Value{seq(numbers(4, 7)...), abc}, integer("3")},
		{"has$Set<Int>", []api.Value{setOf(numbers(1, 3)...), integer("2")}, truth(true)}, {"has$Set<Int>", []api.Value{setOf(numbers(1, 3)...), integer("4")}, truth(false)}, {"empty$Set<Int>", nil, setOf()}, {"one$Set<Int>", numbers(4, 4), setOf(integer("4"))},
		{"join$Set<Int>", []api.Value{setOf(integer("1"), integer("-1")), setOf(integer("0"), integer("1"), integer("10"))}, setOf(integer("0"), integer("1"), integer("-1"), integer("10"))},
		{"meet$Set<Int>", []api.Value{setOf(numbers(1, 3)...), setOf(numbers(2, 5)...)}, setOf(numbers(2, 3)...)}, {"less$Set<Int>", []api.Value{setOf(numbers(1, 3)...), setOf(numbers(2, 5)...)}, setOf(numbers(1, 1)...)},
		{"sub$Set<Int>", []api.Value{setOf(numbers(1, 3)...), setOf(numbers(1, 3)...)}, truth(true)}, {"sub$Set<Int>", []api.Value{setOf(numbers(1, 3)...), setOf(numbers(0, 3)...)}, truth(true)}, {"sub$Set<Int>", []api.Value{setOf(numbers(0, 3)...), setOf(numbers(1, 3)...)}, truth(false)}, {"size$Set<Int>", []api.Value{setOf(numbers(1, 3)...)}, integer("3")},
		{"diff$Set<Int>", []api.Value{setOf(numbers(1, 3)...), setOf(numbers(1, 3)...)}, integer("0")}, {"diff$Set<Int>", []api.Value{setOf(numbers(1, 3)...), setOf(numbers(2, 4)...)}, integer("1")}, {"diff$Set<Int>", []api.Value{setOf(numbers(2, 4)...), setOf(numbers(1, 3)...)}, integer("1")}, {"diff$Set<Int>", []api.Value{setOf(integer("1"), integer("-1")), setOf(numbers(1, 1)...)}, integer("-1")}, {"diff$Set<E>", []api.Value{setOf(ref(2)), setOf(ref(1))}, ref(1)},
		{"const$Map<Int,Int>", numbers(3, 3), mapOf(integer("3"))}, {"select$Map<Int,Int>", []api.Value{mapOf(integer("3")), integer("9")}, integer("3")}, {"select$Map<Int,Int>", []api.Value{mapOf(integer("3"), integer("5"), integer("7")), integer("5")}, integer("7")}, {"select$Map<Int,Int>", []api.Value{mapOf(integer("3"), integer("5"), integer("7")), integer("7")}, integer("3")},
		{"store$Map<Int,Int>", []api.Value{mapOf(integer("3")), integer("5"), integer("7")}, mapOf(integer("3"), integer("5"), integer("7"))}, {"store$Map<Int,Int>", []api.Value{mapOf(integer("3"), integer("5"), integer("7")), integer("5"), integer("3")}, mapOf(integer("3"))}, {"store$Map<Int,Int>", []api.Value{mapOf(integer("3"), integer("5"), integer("7")), integer("5"), integer("8")}, mapOf(integer("3"), integer("5"), integer("8"))},
		{"store$Map<Int,Int>", []api.Value{mapOf(integer("3"), integer("5"), integer("7")), integer("1"), integer("1")}, mapOf(integer("3"), integer("1"), integer("1"), integer("5"), integer("7"))}, {"store$Map<Int,Int>", []api.Value{mapOf(integer("3"), integer("5"), integer("7")), integer("1"), integer("3")}, mapOf(integer("3"), integer("5"), integer("7"))},
		{"store$Map<E,Int>", []api.Value{mapOf(integer("3")), ref(0), integer("7")}, mapOf(integer("7"), ref(1), integer("3"), ref(2), integer("3"))}, {"store$Map<E,Int>", []api.Value{mapOf(integer("7"), ref(1), integer("3"), ref(2), integer("3")), ref(0), integer("3")}, mapOf(integer("3"))}, {"store$Map<E,Int>", []api.Value{mapOf(integer("3")), ref(1), integer("7")}, mapOf(integer("3"), ref(1), integer("7"))},
		{"diff$Map<Int,Int>", []api.Value{mapOf(integer("3")), mapOf(integer("4"))}, integer("0")}, {"diff$Map<Int,Int>", []api.Value{mapOf(integer("3")), mapOf(integer("3"))}, integer("0")}, {"diff$Map<Int,Int>", []api.Value{mapOf(integer("3"), integer("5"), integer("7")), mapOf(integer("3"))}, integer("5")}, {"diff$Map<Int,Int>", []api.Value{mapOf(integer("3"), integer("5"), integer("4")), mapOf(integer("4"))}, integer("0")},
		{"diff$Map<Int,Int>", []api.Value{mapOf(integer("3"), integer("0"), integer("4"), integer("1"), integer("4"), integer("-1"), integer("4")), mapOf(integer("4"))}, integer("2")}, {"diff$Map<Int,Int>", []api.Value{mapOf(integer("3"), integer("9"), integer("7"), integer("-1"), integer("2")), mapOf(integer("3"))}, integer("9")}, {"diff$Map<Int,Int>", []api.Value{mapOf(integer("3"), integer("9"), integer("7"), integer("-1"), integer("2")), mapOf(integer("3"), integer("9"), integer("7"))}, integer("-1")},
		{"diff$Map<Int,Int>", []api.Value{mapOf(integer("3"), integer("0"), integer("4")), mapOf(integer("3"), integer("0"), integer("4"))}, integer("0")}, {"diff$Map<L,Int>", []api.Value{mapOf(integer("3"), cons("nil"), integer("4")), mapOf(integer("3"), cons("nil"), integer("4"))}, cons("nil")},
		{"diff$Map<E,Int>", []api.Value{mapOf(integer("3")), mapOf(integer("4"))}, ref(0)}, {"diff$Map<E,Int>", []api.Value{mapOf(integer("3"), ref(2), integer("4")), mapOf(integer("3"))}, ref(2)}, {"diff$Map<E,Int>", []api.Value{mapOf(integer("3"), ref(2), integer("4")), mapOf(integer("3"), ref(1), integer("4"))}, ref(1)}, {"diff$Map<E,Int>", []api.Value{mapOf(integer("3"), ref(1), integer("4")), mapOf(integer("3"), ref(1), integer("4"))}, ref(0)}, {"diff$Map<Bool,Bool>", []api.Value{mapOf(truth(true), truth(true), truth(false)), mapOf(truth(true))}, truth(true)},
	} {
		if got := applied(t, sig, m, c.name, c.args...); !equal(got, c.want) {
			t.Errorf("Apply of %s to %s: %s, want %s", c.name, showAll(c.args), shown(got), shown(c.want))
		}
	}
}

// TestApplyErrors is for P12.2: functions that do not exist, and wrong arguments.
func TestApplyErrors(t *testing.T) {
	sig, m := sigG(), exampleModel()
	for _, c := range []struct {
		name string
		args []api.Value
		want api.Errno
	}{
		{"", nil, api.ErrUnknown}, {"g", nil, api.ErrUnknown}, {"is$", nil, api.ErrUnknown}, {"is$f", []api.Value{ref(0)}, api.ErrUnknown}, {"len", nil, api.ErrUnknown}, {"len$E", nil, api.ErrUnknown}, {"len$L", nil, api.ErrUnknown}, {"len$Seq<G>", nil, api.ErrUnknown}, {"len$Set<Int>", nil, api.ErrUnknown}, {"size$Seq<Int>", nil, api.ErrUnknown}, {"div$Real", nil, api.ErrUnknown}, {"c0", nil, api.ErrUnknown}, {"is$c0", []api.Value{cons("nil")}, api.ErrUnknown}, {"select$Map<Int,Int", nil, api.ErrUnknown}, {"$Seq<Int>", nil, api.ErrUnknown}, {"and", nil, api.ErrUnknown},
		{"c", []api.Value{ref(9)}, api.ErrArgs}, {"f", nil, api.ErrArgs}, {"cons", []api.Value{ref(9)}, api.ErrArgs}, {"nil", []api.Value{ref(9)}, api.ErrArgs}, {"div$Int", numbers(1, 1), api.ErrArgs}, {"empty$Seq<Int>", numbers(1, 1), api.ErrArgs}, {"head", nil, api.ErrArgs}, {"is$nil", nil, api.ErrArgs},
		{"f", []api.Value{ref(2)}, api.ErrType}, {"f", []api.Value{integer("0")}, api.ErrType}, {"cons", []api.Value{ref(0), ref(0)}, api.ErrType}, {"head", []api.Value{ref(0)}, api.ErrType}, {"is$nil", []api.Value{cons("x")}, api.ErrType}, {"div$Int", []api.Value{integer("1"), fraction("1/1")}, api.ErrType}, {"len$Seq<Int>", []api.Value{seq(ref(0))}, api.ErrType}, {"select$Map<E,Int>", []api.Value{mapOf(integer("1"), ref(0), integer("2")), ref(0)}, api.ErrType}, {"has$Set<Int>", []api.Value{setOf(integer("2"), integer("1")), integer("1")}, api.ErrType},
	} {
		if v, e := Apply(sig, m, c.name, c.args); !isNothing(v) || e != c.want {
			t.Errorf("Apply of %s to %d arguments: %s, %d, want %d", c.name, len(c.args), shown(v), e, c.want)
		}
	}
}

// TestApplyLarge is for P12.2: results that are no values.
func TestApplyLarge(t *testing.T) {
	sig := tower(4, 20) // the zero of D0 has 8421 values, that of D1 421
	sig.Sorts = []string{"E"}
	sig.Datas = append(sig.Datas, datatypeOf("A = a0 | a1 | a2 | a3 | a4"), datatypeOf("B = b0 | b1 | b2 | b3 | b4 | b5 | b6 | b7"), datatypeOf("K = k x:A y:B"), datatypeOf("L = nil | cons head:D1 tail:L"), datatypeOf("O = none | some big:D0"))
	m := Model{Universes: []Universe{{"E", 1}}}
	long := func(from, to int) api.Value { return seq(numbers(from, to)...) }
	entries := func(from, number int) api.Value {
		v := mapOf(integer("0"))
		for _, key := range numbers(from, from+number-1) {
			v.Items = append(v.Items, key, integer("1"))
		}
		return v
	}
	unit, _ := Zero(sig, "D1")
	list := func(length int) api.Value {
		v := cons("nil")
		for range length {
			v = cons("cons", unit, v)
		}
		return v
	}
	nested := func(depth int) api.Value {
		v := seq()
		for range depth - 1 {
			v = seq(v)
		}
		return v
	}
	deep := func(depth int) string {
		return strings.Repeat("Seq<", depth) + "E" + strings.Repeat(">", depth)
	}
	keys, _, _ := Elements(sig, m, "K") // 40 of them
	most := mapOf(truth(false))
	for _, key := range ascending(keys[1:33]) {
		most.Items = append(most.Items, key, truth(true))
	}
	for i, c := range []struct {
		name string
		args []api.Value
		want api.Errno
	}{
		{"cat$Seq<Int>", []api.Value{long(1, 100), long(1, 100)}, api.OK},
		{"cat$Seq<Int>", []api.Value{long(1, 100), long(1, 101)}, api.ErrLarge},
		{"join$Set<Int>", []api.Value{setOf(numbers(100, 199)...), setOf(numbers(150, 299)...)}, api.OK},
		{"join$Set<Int>", []api.Value{setOf(numbers(100, 199)...), setOf(numbers(200, 300)...)}, api.ErrLarge},
		{"store$Map<Int,Int>", []api.Value{entries(10, 31), integer("9"), integer("5")}, api.OK},
		{"store$Map<Int,Int>", []api.Value{entries(10, 32), integer("9"), integer("5")}, api.ErrLarge},
		{"store$Map<Int,Int>", []api.Value{entries(10, 32), integer("9"), integer("0")}, api.OK},
		{"store$Map<Int,Int>", []api.Value{entries(10, 32), integer("10"), integer("5")}, api.OK},
		{"store$Map<K,Bool>", []api.Value{mapOf(truth(false)), keys[0], truth(true)}, api.ErrLarge}, // 39 keys
		{"store$Map<K,Bool>", []api.Value{mapOf(truth(false)), keys[1], truth(true)}, api.OK},
		{"store$Map<K,Bool>", []api.Value{most, keys[0], truth(true)}, api.OK}, // 7 keys
		{"store$Map<K,Bool>", []api.Value{most, keys[33], truth(true)}, api.ErrLarge},
		{"cons", []api.Value{unit, list(8)}, api.OK},
		{"cons", []api.Value{unit, list(9)}, api.ErrLarge}, // more than 4000 values
		{"one$Seq<" + deep(78) + ">", []api.Value{nested(78)}, api.OK},
		{"one$Seq<" + deep(78) + ">", []api.Value{nested(79)}, api.ErrType}, // of another sort
		{"c0", slices.Repeat([]api.Value{unit}, 20), api.ErrLarge},
		{"f0_0", []api.Value{unit}, api.ErrType},
		{"head", []api.Value{cons("nil")}, api.OK},
		{"big", []api.Value{cons("none")}, api.ErrLarge}, // the zero
		{"at$Seq<D0>", []api.Value{seq(), integer("0")}, api.ErrLarge},
		{"diff$Set<D0>", []api.Value{setOf(), setOf()}, api.ErrLarge},
		{"diff$Map<D0,Int>", []api.Value{mapOf(integer("0")), mapOf(integer("0"))}, api.ErrLarge},
		{"diff$Map<D0,Int>", []api.Value{mapOf(integer("0")), mapOf(integer("1"))}, api.ErrLarge}, // an element
		{"const$Map<Int,D1>", []api.Value{unit}, api.OK},
		{"some", []api.Value{unit}, api.ErrType},
	} {
		v, e := Apply(sig, m, c.name, c.args)
		if e != c.want || e != api.OK && !isNothing(v) {
			t.Errorf("%d: Apply of %s: %d, want %d", i, c.name, e, c.want)
		}
	}
	levels := sigOf("E", []string{"L = nil | cons head:E tail:L"}, nil)
	chain := cons("nil")
	for range 78 {
		chain = cons("cons", ref(0), chain)
	}
	longer := applied(t, levels, m, "cons", ref(0), chain)
	if v, e := Apply(levels, m, "cons", []api.Value{ref(0), longer}); e != api.ErrLarge || !isNothing(v) {
		t.Errorf("Apply with a result of 81 levels: %d", e)
	}
}

// TestApplyDifferences is for P12.2: the first element of a sort that is a key of neither map, where both have as many keys as they can.
func TestApplyDifferences(t *testing.T) {
	sig, m := api.Signature{}, Model{}
	var elements []api.Value
	d := newDefinition(sig, 1)
	for _, v := range d.first("Int", 65, -1) {
		elements = append(elements, v)
	}
	one, two := mapOf(integer("1")), mapOf(integer("2"))
	keys := slices.Clone(elements[:64])
	left, right := keys[:32], keys[32:]
	slices.SortFunc(left, Compare)
	slices.SortFunc(right, Compare)
	for _, key := range left {
		one.Items = append(one.Items, key, integer("2"))
	}
	for _, key := range right {
		two.Items = append(two.Items, key, integer("1"))
	}
	if got := applied(t, sig, m, "diff$Map<Int,Int>", one, two); !equal(got, elements[64]) {
		t.Errorf("diff of maps with 64 keys: %s, want %s", shown(got), shown(elements[64]))
	}
}

// TestArithmetic is for P12.2: division, compared with big numbers.
func TestArithmetic(t *testing.T) {
	m := newMaker(122, api.Signature{}, 1)
	for range 2000 {
		number := func() *big.Int {
			n := big.NewInt(int64(m.Intn(7) - 3))
			if m.Intn(2) == 0 {
				n.Mul(n, new(big.Int).Exp(big.NewInt(int64(m.Intn(9)+2)), big.NewInt(int64(m.Intn(110))), nil))
			}
			return n.Add(n, big.NewInt(int64(m.Intn(3))))
		}
		a, b := number(), number()
		quotient, remainder := big.NewInt(0), big.NewInt(0)
		if b.Sign() != 0 {
			quotient.DivMod(a, b, remainder)
		}
		args := []api.Value{integer(a.String()), integer(b.String())}
		if got := applied(t, api.Signature{}, Model{}, "div$Int", args...); got.Num != quotient.String() {
			t.Fatalf("div of %s and %s: %s", a, b, got.Num)
		}
		if got := applied(t, api.Signature{}, Model{}, "mod$Int", args...); got.Num != remainder.String() {
			t.Fatalf("mod of %s and %s: %s", a, b, got.Num)
		}
	}
}

// TestMapLaws is for P12.2 and P12.4: a map is what its values at all keys are: maps are equal exactly if they have the same values, and store, const and diff do what they say.
func TestMapLaws(t *testing.T) {
	sig := wideSig()
	for size := 1; size <= 3; size++ {
		m := newMaker(int64(123+size), sig, size)
		model := firstModel(t, sig, size)
		for _, sorts := range [][2]string{{"Int", "Bool"}, {"E", "Int"}, {"Color", "E"}, {"Bool", "Bool"}, {"Set<E>", "E"}, {"L", "Int"}, {"Seq<Int>", "Set<E>"}, {"Set<Color>", "Bool"}} {
			name := "$Map<" + sorts[0] + "," + sorts[1] + ">"
			keys := m.pool(sorts[0])
			some := func() api.Value {
				v := applied(t, sig, model, "const"+name, m.value(sorts[1]))
				for range m.Intn(5) {
					v = applied(t, sig, model, "store"+name, v, m.value(sorts[0]), m.value(sorts[1]))
				}
				return v
			}
			at := func(v, key api.Value) api.Value { return applied(t, sig, model, "select"+name, v, key) }
			for range 12 {
				a, b, key, v := some(), some(), m.value(sorts[0]), m.value(sorts[1])
				stored := applied(t, sig, model, "store"+name, a, key, v)
				alike := true
				for _, k := range keys {
					want := at(a, k)
					if equal(k, key) {
						want = v
					}
					if !equal(at(stored, k), want) || !equal(at(applied(t, sig, model, "const"+name, v), k), v) {
						t.Fatalf("store%s of %s at %s is %s", name, shown(v), shown(key), shown(stored))
					}
					alike = alike && equal(at(a, k), at(b, k))
				}
				if alike != equal(a, b) {
					t.Fatalf("%s and %s", shown(a), shown(b))
				}
				checkDifference(t, m, sorts[0], a, b, applied(t, sig, model, "diff"+name, a, b), at)
			}
		}
	}
}

// checkDifference compares a difference of maps with the definition.
func checkDifference(t *testing.T, m *maker, sort string, a, b, got api.Value, at func(v, key api.Value) api.Value) {
	t.Helper()
	elements := m.first(sort, 65, -1)
	differ := func(key api.Value) bool { return !equal(at(a, key), at(b, key)) }
	var listed []api.Value
	for _, v := range []api.Value{a, b} {
		for i := 1; i < len(v.Items); i += 2 {
			listed = append(listed, v.Items[i])
		}
	}
	want := elements[0] // the zero, for these sorts
	switch {
	case equal(a, b):
	case len(elements) < 65:
		want = elements[slices.IndexFunc(elements, differ)]
	default:
		slices.SortFunc(listed, plainCompare)
		if i := slices.IndexFunc(listed, differ); i >= 0 {
			want = listed[i]
		} else {
			want = elements[slices.IndexFunc(elements, func(v api.Value) bool {
				return !slices.ContainsFunc(listed, func(k api.Value) bool { return equal(k, v) })
			})]
		}
	}
	if !equal(got, want) {
		t.Fatalf("diff of %s and %s: %s, want %s", shown(a), shown(b), shown(got), shown(want))
	}
}

// TestSetLaws is for P12.2 and P12.4: sets are what their elements are.
func TestSetLaws(t *testing.T) {
	sig := wideSig()
	model := firstModel(t, sig, 2)
	m := newMaker(126, sig, 2)
	for _, sort := range []string{"Int", "E", "L", "Seq<Bool>", "Real"} {
		name := "$Set<" + sort + ">"
		some := func() api.Value {
			v := applied(t, sig, model, "empty"+name)
			for range m.Intn(6) {
				v = applied(t, sig, model, "join"+name, applied(t, sig, model, "one"+name, m.value(sort)), v)
			}
			return v
		}
		has := func(s, v api.Value) bool { return equal(applied(t, sig, model, "has"+name, s, v), truth(true)) }
		for range 20 {
			a, b := some(), some()
			join, meet, less := applied(t, sig, model, "join"+name, a, b), applied(t, sig, model, "meet"+name, a, b), applied(t, sig, model, "less"+name, a, b)
			size, subset := 0, true
			var first *api.Value
			pool := slices.Clone(m.pool(sort))
			slices.SortFunc(pool, plainCompare)
			for _, v := range pool {
				x, y := has(a, v), has(b, v)
				if has(join, v) != (x || y) || has(meet, v) != (x && y) || has(less, v) != (x && !y) {
					t.Fatalf("%s, %s: %s, %s, %s", shown(a), shown(b), shown(join), shown(meet), shown(less))
				}
				if x {
					size++
				}
				if x != y && first == nil {
					first = &v
				}
				subset = subset && (!x || y)
			}
			zero, _ := Zero(sig, sort)
			if first == nil {
				first = &zero
			}
			if got := applied(t, sig, model, "size"+name, a); got.Num != strconv.Itoa(size) {
				t.Fatalf("size of %s: %s", shown(a), shown(got))
			}
			if got := applied(t, sig, model, "sub"+name, a, b); !equal(got, truth(subset)) {
				t.Fatalf("sub of %s and %s: %s", shown(a), shown(b), shown(got))
			}
			if got := applied(t, sig, model, "diff"+name, a, b); !equal(got, *first) {
				t.Fatalf("diff of %s and %s: %s, want %s", shown(a), shown(b), shown(got), shown(*first))
			}
		}
	}
}

// TestApplyKeeps is for P12.2: results share no memory with the arguments or the model.
func TestApplyKeeps(t *testing.T) {
	sig := sigOf("", []string{"P = p x:Seq<Int>"}, []string{"c -> Seq<Int>"})
	m := firstModel(t, sig, 1)
	m.Tables[0].Default = seq(numbers(1, 2)...)
	arg := seq(numbers(1, 2)...)
	for name, args := range map[string][]api.Value{"c": nil, "x": {cons("p", arg)}, "put$Seq<Int>": {arg, integer("0"), integer("1")}, "cut$Seq<Int>": {arg, integer("0"), integer("2")}, "at$Seq<Seq<Int>>": {seq(arg), integer("0")}} {
		v := applied(t, sig, m, name, args...)
		v.Items[0].Num = "9"
		if arg.Items[0].Num != "1" || m.Tables[0].Default.Items[0].Num != "1" {
			t.Errorf("Apply of %s shares memory", name)
		}
	}
}
