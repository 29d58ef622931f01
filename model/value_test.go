package model

import (
	"slices"
	"strconv"
	"strings"
	"testing"

	"entail/api"
)

// TestCompare is for P12.1: the order of values by each of their fields.
func TestCompare(t *testing.T) {
	ascending := []api.Value{
		{Kind: -1, Num: "9", Text: "z"},
		{},
		{Text: "a"},
		{Num: "0"},
		{Num: "1"},
		{Num: "-1"},
		{Num: "10"},
		{Num: "10", Text: "a"},
		{Num: "10", Text: "a", Items: []api.Value{{}}},
		{Num: "10", Text: "a", Items: []api.Value{{Num: "1"}}},
		{Num: "10", Text: "a", Items: []api.Value{{Num: "1", Items: []api.Value{{}}}}},
		{Num: "10", Text: "a", Items: []api.Value{{}, {}}},
		{Num: "10", Text: "a", Items: []api.Value{{}, {Num: "5"}}},
		{Num: "10", Text: "a", Items: []api.Value{{Num: "5"}, {}}},
		{Num: "10", Text: "a", Items: []api.Value{{Num: "5", Items: []api.Value{{}}}, {}}},
		{Num: "10", Text: "ab"},
		{Num: "10", Text: "b"},
		integer("3"),
		integer("7"),
		integer("-7"),
		fraction("0/1"),
		seq(integer("9")),
		seq(integer("1"), integer("1")),
		setOf(),
		{Kind: 99},
	}
	for i, a := range ascending {
		for j, b := range ascending {
			want := 0
			if i < j {
				want = -1
			} else if i > j {
				want = 1
			}
			if got := Compare(a, b); got != want || plainCompare(a, b) != want {
				t.Errorf("Compare(%v, %v): %d, want %d", a, b, got, want)
			}
		}
	}
	if Compare(api.Value{Items: []api.Value{}}, api.Value{}) != 0 {
		t.Error("no items and nil items differ")
	}
}

// TestCompareDeep is for P1 and P12.1: values that are nested deeper than calls can be, and parts that are shared.
func TestCompareDeep(t *testing.T) {
	chain := func(last string) api.Value {
		v := integer(last)
		for range 3000000 {
			v = seq(v)
		}
		return v
	}
	if order := Compare(chain("2"), chain("1")); order != 1 {
		t.Errorf("Compare of deep values: %d", order)
	}
	shared := integer("0")
	for range 100 {
		shared = seq(shared, shared)
	}
	if Compare(shared, shared) != 0 || Compare(seq(shared, integer("1")), seq(shared, integer("2"))) != -1 {
		t.Error("Compare of shared values")
	}
}

// TestCompareLaws is for P12.1: the order is total, and values are equal exactly if it says so.
func TestCompareLaws(t *testing.T) {
	m := newMaker(121, wideSig(), 2)
	var all []api.Value
	for _, sort := range []string{"Bool", "E", "Int", "Real", "L", "Box", "Seq<Int>", "Set<E>", "Map<Int,Bool>", "Map<Color,E>"} {
		all = append(all, m.pool(sort)...)
	}
	for _, a := range all {
		for _, b := range all {
			order := Compare(a, b)
			if order != -Compare(b, a) || (order == 0) != equal(a, b) || order != plainCompare(a, b) {
				t.Fatalf("Compare(%v, %v): %d", a, b, order)
			}
		}
	}
	slices.SortFunc(all, Compare)
	for i := range len(all) - 1 {
		if Compare(all[i], all[i+1]) > 0 {
			t.Fatalf("%v comes before %v", all[i], all[i+1])
		}
	}
}

// TestHasSort is for P12.1: values of all sorts, and values that are none.
func TestHasSort(t *testing.T) {
	sig := wideSig()
	m := firstModel(t, sig, 2)
	nested := func(depth int) api.Value { // a sequence nested that deep
		v := seq()
		for range depth - 1 {
			v = seq(v)
		}
		return v
	}
	deepSort := func(depth int) string { return strings.Repeat("Seq<", depth) + "E" + strings.Repeat(">", depth) }
	large := func(nodes int) api.Value { // a sequence of sequences of 100 values each, as far as they go
		v := seq()
		for nodes--; nodes > 0; nodes -= 100 {
			v.Items = append(v.Items, seq(slices.Repeat([]api.Value{integer("1")}, min(nodes, 100)-1)...))
		}
		return v
	}
	list := func(length int) api.Value { // a list of that many elements
		v := cons("nil")
		for range length {
			v = cons("cons", ref(0), v)
		}
		return v
	}
	entries := func(number int) api.Value {
		v := mapOf(truth(false))
		for i := range number {
			v.Items = append(v.Items, integer(strconv.Itoa(10+i)), truth(true))
		}
		return v
	}
	for i, c := range []struct {
		sort string
		v    api.Value
		want bool
	}{
		{"Bool", truth(true), true}, {"Bool", truth(false), true}, {"Bool", api.Value{}, false}, {"Bool", api.Value{Num: "2"}, false}, {"Bool", api.Value{Num: "1", Text: "x"}, false}, {"Bool", api.Value{Num: "1", Items: []api.Value{{}}}, false}, {"Bool", integer("1"), false}, {"Bool", api.Value{Num: "1", Items: []api.Value{}}, true},
		{"Int", integer("0"), true}, {"Int", integer("-12"), true}, {"Int", integer("007"), false}, {"Int", integer("-0"), false}, {"Int", integer(""), false}, {"Int", integer(strings.Repeat("9", 120)), true}, {"Int", integer(strings.Repeat("9", 121)), false}, {"Int", ref(1), false}, {"Int", fraction("1/1"), false}, {"Int", api.Value{Kind: api.VInt, Num: "1", Text: "8"}, false}, {"Int", api.Value{Kind: api.VInt, Num: "1", Items: []api.Value{{}}}, false},
		{"Real", fraction("1/2"), true}, {"Real", fraction("-3/1"), true}, {"Real", fraction("2/4"), false}, {"Real", fraction("1"), false}, {"Real", integer("1"), false}, {"Real", api.Value{Kind: api.VReal, Num: "1/2", Text: "x"}, false},
		{"E", ref(0), true}, {"E", ref(1), true}, {"E", ref(2), false}, {"E", ref(-1), false}, {"E", api.Value{Kind: api.VRef, Num: "01"}, false}, {"E", api.Value{Kind: api.VRef, Num: "+1"}, false}, {"E", api.Value{Kind: api.VRef}, false}, {"E", api.Value{Kind: api.VRef, Num: strings.Repeat("9", 30)}, false}, {"E", integer("0"), false}, {"F", ref(1), true}, {"E", api.Value{Kind: api.VRef, Num: "1", Text: "x"}, false},
		{"L", cons("nil"), true}, {"L", cons("cons", ref(1), cons("nil")), true}, {"L", cons("cons", ref(2), cons("nil")), false}, {"L", cons("cons", ref(1)), false}, {"L", cons("cons", ref(1), cons("nil"), cons("nil")), false}, {"L", cons("nil", ref(0)), false}, {"L", cons("red"), false}, {"L", cons("x"), false}, {"L", cons(""), false}, {"L", api.Value{Kind: api.VCons, Text: "nil", Num: "1"}, false}, {"L", api.Value{Kind: api.VSeq, Text: "nil"}, false}, {"L", cons("cons", cons("nil"), ref(1)), false},
		{"L", list(79), true}, {"L", list(80), false}, // nested 80 and 81 deep
		{"Color", cons("blue"), true}, {"Color", cons("nil"), false}, {"Box", cons("box", mapOf(ref(0)), seq()), true}, {"Box", cons("box", mapOf(ref(0)), seq(cons("box", mapOf(ref(1)), seq()))), true}, {"Box", cons("box", mapOf(ref(0)), seq(cons("nil"))), false},
		{"Seq<Int>", seq(), true}, {"Seq<Int>", seq(integer("2"), integer("1"), integer("2")), true}, {"Seq<Int>", seq(ref(1)), false}, {"Seq<Int>", setOf(), false}, {"Seq<Int>", api.Value{Kind: api.VSeq, Num: "0"}, false}, {"Seq<Int>", api.Value{Kind: api.VSeq, Text: "x"}, false}, {"Seq<Int>", seq(slices.Repeat([]api.Value{integer("1")}, 200)...), true}, {"Seq<Int>", seq(slices.Repeat([]api.Value{integer("1")}, 201)...), false},
		{deepSort(79), nested(79), true}, {"Seq<" + deepSort(78) + ">", nested(80), false},
		{"Seq<Seq<Int>>", large(4000), true}, {"Seq<Seq<Int>>", large(4001), false},
		{"Set<Int>", setOf(), true}, {"Set<Int>", setOf(integer("1"), integer("2"), integer("-1"), integer("10")), true}, {"Set<Int>", setOf(integer("2"), integer("1")), false}, {"Set<Int>", setOf(integer("1"), integer("1")), false}, {"Set<Int>", setOf(integer("-1"), integer("1")), false}, {"Set<Int>", setOf(ref(0)), false}, {"Set<Int>", seq(), false}, {"Set<Int>", setOf(numbers(10, 99)...), true}, {"Set<Int>", setOf(numbers(1000, 1199)...), true}, {"Set<Int>", setOf(numbers(1000, 1200)...), false}, {"Set<Int>", api.Value{Kind: api.VSet, Text: "x"}, false},
		{"Map<Int,Bool>", mapOf(truth(false)), true}, {"Map<Int,Bool>", mapOf(), false}, {"Map<Int,Bool>", mapOf(truth(true), integer("5"), truth(false)), true}, {"Map<Int,Bool>", mapOf(truth(true), integer("5"), truth(true)), false}, {"Map<Int,Bool>", mapOf(truth(true), integer("5")), false}, {"Map<Int,Bool>", mapOf(integer("5"), integer("5"), truth(true)), false}, {"Map<Int,Bool>", mapOf(truth(true), truth(false), integer("5")), false}, {"Map<Int,Bool>", mapOf(truth(true), integer("5"), integer("6")), false},
		{"Map<Int,Bool>", mapOf(truth(true), integer("5"), truth(false), integer("6"), truth(false)), true}, {"Map<Int,Bool>", mapOf(truth(true), integer("6"), truth(false), integer("5"), truth(false)), false}, {"Map<Int,Bool>", mapOf(truth(true), integer("5"), truth(false), integer("5"), truth(false)), false}, {"Map<Int,Bool>", mapOf(truth(true), integer("0"), truth(false)), true},
		{"Map<Int,Bool>", entries(32), true}, {"Map<Int,Bool>", entries(33), false}, {"Map<Int,Bool>", api.Value{Kind: api.VMap, Num: "1", Items: []api.Value{truth(true)}}, false}, {"Map<Int,Bool>", api.Value{Kind: api.VMap, Text: "x", Items: []api.Value{truth(true)}}, false},
		{"Map<E,Int>", mapOf(integer("0"), ref(0), integer("1")), false}, {"Map<E,Int>", mapOf(integer("0"), ref(1), integer("1")), true}, {"Map<E,Int>", mapOf(integer("0"), ref(2), integer("1")), false}, {"Map<E,Int>", mapOf(integer("0"), ref(0), integer("1"), ref(1), integer("1")), false}, {"Map<Color,E>", mapOf(ref(0), cons("red"), ref(1)), false}, {"Map<Color,E>", mapOf(ref(0), cons("blue"), ref(1)), true}, {"Map<Color,E>", mapOf(ref(0), cons("blue"), ref(1), cons("green"), ref(1)), true}, {"Map<Color,E>", mapOf(ref(0), cons("green"), ref(1), cons("blue"), ref(1)), false},
		{"Map<Bool,Int>", mapOf(integer("0"), truth(true), integer("1")), true}, {"Map<Bool,Int>", mapOf(integer("0"), truth(false), integer("1")), false}, {"Map<Set<E>,E>", mapOf(ref(1), setOf(ref(0)), ref(0)), true}, {"Map<Set<E>,E>", mapOf(ref(1), setOf(), ref(0)), false},
		{"Int", api.Value{Kind: -1}, false}, {"Int", api.Value{Kind: api.Kinds}, false}, {"Int", api.Value{Kind: api.VBits, Num: "1", Text: "8"}, false},
	} {
		if got, e := HasSort(sig, m, c.sort, c.v); got != c.want || e != api.OK {
			t.Errorf("%d: HasSort(%.40s, %.60s): %v, %d", i, c.sort, shown(c.v), got, e)
		}
	}
	for i, size := range []int{1, 2, 3} {
		if got, e := HasSort(sig, firstModel(t, sig, size), "E", ref(i)); !got || e != api.OK {
			t.Errorf("HasSort of the last of %d elements: %v, %d", size, got, e)
		}
		if got, e := HasSort(sig, firstModel(t, sig, size), "E", ref(i+1)); got || e != api.OK {
			t.Errorf("HasSort of one more than %d elements: %v, %d", size, got, e)
		}
	}
}

// TestElements is for P12.1: the elements of small sorts, in their order.
func TestElements(t *testing.T) {
	sig := wideSig()
	m := firstModel(t, sig, 2)
	for sort, want := range map[string]string{
		"Bool":             "false true",
		"E":                "_!0 _!1",
		"Color":            "red green blue",
		"Set<E>":           "{} {_!0} {_!1} {_!0 _!1}",
		"Set<Bool>":        "{} {false} {true} {false true}",
		"Set<Color>":       "{} {red} {green} {green red} {blue} {blue red} {blue green} {blue green red}",
		"Map<E,Bool>":      "<false> <true _!1:false> <false _!1:true> <true>",
		"Map<Bool,E>":      "<_!0> <_!1 true:_!0> <_!0 true:_!1> <_!1>",
		"Map<E,Color>":     "<red> <green _!1:red> <blue _!1:red> <red _!1:green> <green> <blue _!1:green> <red _!1:blue> <green _!1:blue> <blue>",
		"Set<Map<E,Bool>>": "",
	} {
		l, small, e := Elements(sig, m, sort)
		if !small || e != api.OK || want != "" && showAll(l) != want {
			t.Errorf("Elements of %s: %s, %v, %d, want %s", sort, showAll(l), small, e, want)
		}
	}
	for sort, want := range map[string]string{
		"Int": "0", "Real": "0/1", "Seq<E>": "[]", "L": "nil", "Set<Int>": "{}", "Map<Int,Bool>": "<false>", "Map<E,Int>": "<0>", "Box": "(box <_!0> [])", "Set<L>": "{}", "Seq<Bool>": "[]",
		"Set<Set<Set<E>>>": "{}", "Map<L,E>": "<_!0>", "Pair": "(pair 0 false)",
	} {
		l, small, e := Elements(sig, m, sort)
		if small || e != api.OK || showAll(l) != want {
			t.Errorf("Elements of %s: %s, %v, %d, want %s", sort, showAll(l), small, e, want)
		}
	}
	m.Domains = []Domain{{"Int", numbers(3, 5)}, {"L", []api.Value{cons("cons", ref(1), cons("nil"))}}}
	for sort, want := range map[string]string{"Int": "3 4 5", "L": "(cons _!1 nil)", "Real": "0/1"} {
		if l, small, e := Elements(sig, m, sort); small || e != api.OK || showAll(l) != want {
			t.Errorf("Elements of %s with a domain: %s, %v, %d, want %s", sort, showAll(l), small, e, want)
		}
	}
	l, _, _ := Elements(sig, m, "L")
	l[0].Items[0].Num = "9"
	if m.Domains[1].Values[0].Items[0].Num != "1" {
		t.Error("Elements shares memory with the model")
	}
}

// TestSmall is for P12.1: sorts with at most 64 elements are small.
func TestSmall(t *testing.T) {
	constants := func(name string, n int) string {
		var out []string
		for i := range n {
			out = append(out, name+strconv.Itoa(i))
		}
		return strings.Join(out, " | ")
	}
	sig := sigOf("E", []string{
		"A = " + constants("a", 16), "B = b x:A y:E z:E", "C = c u:A v:E w:E | d", "D = none | some e:D2", "D2 = unit", "U = unitU", "V = v1 v2:Map<A,U>",
		"Chain = end | next n1:Link", "Link = stop | then n2:Chain", "Six = " + constants("s", 6), "Seven = " + constants("q", 7), "Two = t0 | t1",
	}, nil)
	for sort, want := range map[string]int{"A": 16, "B": 64, "C": 0, "D": 2, "D2": 1, "U": 1, "V": 1, "Chain": 0, "Link": 0, "Map<A,U>": 1, "Map<Six,E>": 64, "Map<Seven,E>": 0, "Set<Six>": 64, "Set<Seven>": 0, "Map<Six,Bool>": 64, "Map<Two,Seven>": 49, "Map<E,Set<E>>": 16, "Map<U,A>": 16, "Set<A>": 0, "Map<Int,U>": 1, "Map<L,U>": -1, "Set<U>": 2, "Seq<U>": 0} {
		l, small, e := Elements(sig, Model{Universes: []Universe{{"E", 2}}}, sort)
		if want < 0 {
			if e != api.ErrSort {
				t.Errorf("Elements of %s: %d", sort, e)
			}
			continue
		}
		if small != (want > 0) || e != api.OK || small && len(l) != want || !small && len(l) != 1 {
			t.Errorf("Elements of %s: %d, %v, %d, want %d", sort, len(l), small, e, want)
		}
	}
}

// TestFirstElements is for P12.1: the first elements of sorts, to all depths, compared with the definition.
func TestFirstElements(t *testing.T) {
	for _, sig := range []api.Signature{
		wideSig(),
		sigOf("E", []string{"A = a0 a1:B | a2", "B = b0 b1:C", "C = c0 c1:A c2:E | c3"}, nil),
		sigOf("E", []string{"T = leaf | node left:T right:T", "W = w1 w2:Set<W> | w3 w4:Map<E,W>", "Z = z1 z2:Seq<Z>"}, nil),
		sigOf("E", []string{"P = p1 p2:Map<Q,P> | p3", "Q = q1 | q2 | q4 q5:E", "R = r1 r2:Map<Int,R> r3:Map<Q,Q> | r4 r5:Q"}, nil),
		sigOf("E", []string{"D = r1 r2:D | d1 | d2 | d3", "Q = q1 q2:D q3:Q | q4 | q5"}, nil),
		sigOf("E", []string{"K = k1 k2:K2 | k3", "K2 = k4 k5:K3 | k6", "K3 = k7 k8:K | k9 k10:Map<K4,E>", "K4 = k11 k12:E | k13"}, nil),
	} {
		for size := 1; size <= 3; size++ {
			d := newDefinition(sig, size)
			w, e := newWorld(sig, size)
			if e != api.OK {
				t.Fatalf("the signature: %d", e)
			}
			sorts := []string{"Int", "Real", "Bool", "E", "Seq<Int>", "Seq<Bool>", "Set<Int>", "Set<E>", "Map<Int,Bool>", "Map<E,Int>", "Map<E,Map<Bool,E>>", "Seq<Set<E>>", "Map<Set<E>,E>", "Set<Map<E,Bool>>", "Map<Seq<E>,Set<Int>>"}
			for _, data := range sig.Datas {
				sorts = append(sorts, data.Sort, "Seq<"+data.Sort+">", "Set<"+data.Sort+">", "Map<Bool,"+data.Sort+">", "Map<"+data.Sort+",E>")
			}
			for _, sort := range sorts {
				for _, n := range []int{3, 7, 20, 65} {
					x := extent{w.known(sort), n, anyDepth}
					want, got := d.first(sort, n, -1), w.list(x)
					if !slices.EqualFunc(got, want, equal) || w.count(x) != len(want) {
						t.Fatalf("the first %d elements of %s with %d: %s, %d of them, want %s", n, sort, size, showAll(got), w.count(x), showAll(want))
					}
				}
				for depth := range 6 {
					x := extent{w.known(sort), 20, depth}
					want, got := d.first(sort, 20, depth), w.list(x)
					if !slices.EqualFunc(got, want, equal) || w.count(x) != len(want) {
						t.Fatalf("the first elements of %s to the depth %d with %d: %s, want %s", sort, depth, size, showAll(got), showAll(want))
					}
				}
			}
		}
	}
}

// TestZero is for P12.1: the zeros of all sorts.
func TestZero(t *testing.T) {
	sig := sigOf("E", []string{"L = nil | cons head:E tail:L", "A = a0 a1:B | a2", "B = b0 b1:C", "C = c0 c1:A c2:E | c3 c4:Map<Int,B> | c5 c6:Seq<C>", "D = d0 d1:Map<E,D> | d2 d3:Set<D>", "F = f0 f1:Map<Bool,C> f2:Real"}, nil)
	for sort, want := range map[string]string{
		"Bool": "false", "Int": "0", "Real": "0/1", "E": "_!0", "Seq<E>": "[]", "Set<L>": "{}", "Map<E,Int>": "<0>", "Map<Int,Map<E,L>>": "<<nil>>",
		"L": "nil", "A": "a2", "B": "(b0 (c5 []))", "C": "(c5 [])", "D": "(d2 {})", "F": "(f0 <(c5 [])> 0/1)",
	} {
		if v, e := Zero(sig, sort); shown(v) != want || e != api.OK {
			t.Errorf("Zero of %s: %s, %d, want %s", sort, shown(v), e, want)
		}
	}
	order := sigOf("", []string{"A = a0 a1:B | a2 a3:C", "B = b0 b1:C", "C = c0"}, nil)
	if v, e := Zero(order, "A"); shown(v) != "(a2 c0)" || e != api.OK { // in the second round only C has a zero
		t.Errorf("Zero by rounds: %s, %d", shown(v), e)
	}
	long := sigOf("", []string{"A = a0 a1:B | a2", "B = b0 b1:C", "C = c0", "G = g0 g1:H", "H = h0 h1:B", "X = x0 x1:A x2:G"}, nil)
	if v, e := Zero(long, "X"); shown(v) != "(x0 a2 (g0 (h0 (b0 c0))))" || e != api.OK { // a zero that was found stays
		t.Errorf("Zero after many rounds: %s, %d", shown(v), e)
	}
	late := sigOf("", []string{"C = c0", "A = a0 a1:B | a2 a3:B a4:B", "B = b0 b1:C"}, nil)
	if v, e := Zero(late, "A"); shown(v) != "(a0 (b0 c0))" || e != api.OK {
		t.Errorf("Zero by rounds: %s, %d", shown(v), e)
	}
}

// tower returns a signature of datatypes each of which has some fields of the next one, down to one without fields.
func tower(height, fields int) api.Signature {
	var datas []string
	for i := range height {
		text := "D" + strconv.Itoa(i) + " = c" + strconv.Itoa(i)
		for j := range fields {
			if i < height-1 {
				text += " f" + strconv.Itoa(i) + "_" + strconv.Itoa(j) + ":D" + strconv.Itoa(i+1)
			}
		}
		datas = append(datas, text)
	}
	return sigOf("", datas, nil)
}

// TestLargeZeros is for P1 and P12.1: zeros that are no values are returned; those that are larger than all memory are an error.
func TestLargeZeros(t *testing.T) {
	count := func(v api.Value) int {
		s := scale{}
		s.countTo(1<<30, v)
		return s.count
	}
	deep := tower(50, 1)
	if v, e := Zero(deep, "Map<Int,"+strings.Repeat("Map<Int,", 40)+"D0"+strings.Repeat(">", 41)); count(v) != 91 || e != api.OK {
		t.Errorf("Zero of 91 levels: %d, %d", count(v), e)
	}
	wide := tower(4, 20)
	if v, e := Zero(wide, "D0"); count(v) != 1+20+400+8000 || e != api.OK {
		t.Errorf("Zero of 8421 values: %d, %d", count(v), e)
	}
	if l, small, e := Elements(wide, Model{}, "D0"); len(l) != 1 || !small || e != api.OK || count(l[0]) != 8421 {
		t.Errorf("Elements of 8421 values: %d, %v, %d", len(l), small, e)
	}
	if is, e := HasSort(wide, Model{}, "D1", func() api.Value { v, _ := Zero(wide, "D1"); return v }()); !is || e != api.OK {
		t.Errorf("HasSort of the zero with 421 values: %v, %d", is, e)
	}
	if is, e := HasSort(wide, Model{}, "D0", func() api.Value { v, _ := Zero(wide, "D0"); return v }()); is || e != api.OK {
		t.Errorf("HasSort of the zero with 8421 values: %v, %d", is, e)
	}
	huge := tower(50, 20)
	if v, e := Zero(huge, "D0"); !isNothing(v) || e != api.ErrLarge {
		t.Errorf("Zero of too many values: %d", e)
	}
	if l, small, e := Elements(huge, Model{}, "D0"); len(l) > 0 || small || e != api.ErrLarge {
		t.Errorf("Elements of too many values: %d, %v, %d", len(l), small, e)
	}
	huge.Funs = []api.Fun{{Name: "c", Sort: "D0"}}
	if m, e := First(huge, 1); len(m.Tables) > 0 || e != api.ErrLarge {
		t.Errorf("First of too many values: %v, %d", m, e)
	}
}

// TestSortErrors is for P12.1: strings that are no sorts, and the errors before.
func TestSortErrors(t *testing.T) {
	sig, m := sigG(), exampleModel()
	for _, sort := range []string{"", "G", "Seq", "Seq<>", "Seq<G>", "Map<E>", "Set<E", "int", "Seq<E> ", strings.Repeat("Seq<", 80) + "E" + strings.Repeat(">", 80)} {
		if is, e := HasSort(sig, m, sort, truth(true)); is || e != api.ErrSort {
			t.Errorf("HasSort of %q: %v, %d", sort, is, e)
		}
		if v, e := Zero(sig, sort); !isNothing(v) || e != api.ErrSort {
			t.Errorf("Zero of %q: %v, %d", sort, v, e)
		}
		if l, small, e := Elements(sig, m, sort); len(l) > 0 || small || e != api.ErrSort {
			t.Errorf("Elements of %q: %v, %v, %d", sort, l, small, e)
		}
	}
	if is, e := HasSort(sig, Model{}, "", truth(true)); is || e != api.ErrShape {
		t.Errorf("HasSort in no model: %v, %d", is, e)
	}
	if l, small, e := Elements(sig, Model{}, ""); len(l) > 0 || small || e != api.ErrShape {
		t.Errorf("Elements in no model: %v, %v, %d", l, small, e)
	}
	declared := sigOf("Seq<Int> E", []string{"Map<E,E> = pair x:E"}, nil) // declarations take precedence
	if v, e := Zero(declared, "Seq<Int>"); !equal(v, ref(0)) || e != api.OK {
		t.Errorf("Zero of a declared Seq<Int>: %v, %d", v, e)
	}
	if v, e := Zero(declared, "Map<E,E>"); !equal(v, cons("pair", ref(0))) || e != api.OK {
		t.Errorf("Zero of a declared Map<E,E>: %v, %d", v, e)
	}
}
