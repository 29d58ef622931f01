package value

import (
	"math/rand"
	"slices"
	"strings"
	"testing"

	"entail/api"
)

// TestWellFormed is for P6.1: values of all kinds.
func TestWellFormed(t *testing.T) {
	nines := strings.Repeat("9", 120)
	for _, s := range []string{
		"true", "false", "0", "-1", nines, "-" + nines, "1/2", "-3/4", "0/1", nines + "/1", "0bv1", "1bv1", "255bv8", "18446744073709551615bv64", "#0", "#99999",
		"[]", "[2, 1, 1]", "{}", "{1}", "{-1, 2, 10}", "{false, true, 1, 1/2, 0bv1, 0bv2, [], {}, multiset{}, map[], A(), #1}", "multiset{}", "multiset{1, 1, 2}", "map[]", "map[1 := 2]", "map[1 := 3, 2 := 2, 10 := 1]",
		"A()", "a()", "Z()", "z()", "AaZz09_()", "zZ::zZ()", "true(1)", "map()", "if()", "M::A(1, [])", "m::a()", "A_1::B2()", "Abcdefghijklmnopqrstuvwx::Abcdefghijklmnopqrstuvwx()",
	} {
		if e := Check(of(s)); e != api.OK {
			t.Errorf("Check(%.40q): %d", s, e)
		}
	}
	for name, v := range map[string]api.Value{"200 items": row(200), "60 levels": nested(59, of("1")), "4000 values": large(4000), "an empty list": {Kind: api.VInt, Num: "1", Items: []api.Value{}}} {
		if e := Check(v); e != api.OK {
			t.Errorf("Check of %s: %d", name, e)
		}
	}
	entries := row(400)
	entries.Kind = api.VMap
	if e := Check(entries); e != api.OK {
		t.Errorf("Check of 200 entries: %d", e)
	}
}

// TestMalformed is for P6.1: the first error of a value.
func TestMalformed(t *testing.T) {
	one, item := of("1"), []api.Value{of("1")}
	for i, c := range []struct {
		v    api.Value
		want api.Errno
	}{
		{api.Value{Kind: -1}, api.ErrKind}, {api.Value{Kind: api.Kinds}, api.ErrKind}, {api.Value{Kind: 1 << 40, Num: "x"}, api.ErrKind},
		{api.Value{}, api.ErrForm}, {api.Value{Num: "2"}, api.ErrForm}, {api.Value{Num: "01"}, api.ErrForm}, {api.Value{Num: "1", Text: "1"}, api.ErrForm}, {api.Value{Num: "1", Items: item}, api.ErrForm},
		{api.Value{Kind: api.VInt}, api.ErrForm}, {api.Value{Kind: api.VInt, Num: "01"}, api.ErrForm}, {api.Value{Kind: api.VInt, Num: "-0"}, api.ErrForm}, {api.Value{Kind: api.VInt, Num: "+1"}, api.ErrForm}, {api.Value{Kind: api.VInt, Num: "1/1"}, api.ErrForm}, {api.Value{Kind: api.VInt, Num: strings.Repeat("9", 121)}, api.ErrForm}, {api.Value{Kind: api.VInt, Num: "1", Text: "8"}, api.ErrForm}, {api.Value{Kind: api.VInt, Num: "1", Items: item}, api.ErrForm},
		{api.Value{Kind: api.VReal, Num: "1"}, api.ErrForm}, {api.Value{Kind: api.VReal, Num: "4/2"}, api.ErrForm}, {api.Value{Kind: api.VReal, Num: "1/0"}, api.ErrForm}, {api.Value{Kind: api.VReal, Num: "1/-2"}, api.ErrForm}, {api.Value{Kind: api.VReal, Num: "1/2/3"}, api.ErrForm}, {api.Value{Kind: api.VReal, Num: strings.Repeat("9", 121) + "/1"}, api.ErrForm}, {api.Value{Kind: api.VReal, Num: "1/2", Text: "1"}, api.ErrForm}, {api.Value{Kind: api.VReal, Num: "1/2", Items: item}, api.ErrForm},
		{api.Value{Kind: api.VBits, Num: "1"}, api.ErrForm}, {api.Value{Kind: api.VBits, Num: "1", Text: "0"}, api.ErrForm}, {api.Value{Kind: api.VBits, Num: "1", Text: "65"}, api.ErrForm}, {api.Value{Kind: api.VBits, Num: "1", Text: "08"}, api.ErrForm}, {api.Value{Kind: api.VBits, Num: "1", Text: "-8"}, api.ErrForm}, {api.Value{Kind: api.VBits, Text: "8"}, api.ErrForm}, {api.Value{Kind: api.VBits, Num: "x", Text: "8"}, api.ErrForm}, {api.Value{Kind: api.VBits, Num: "1", Text: "8", Items: item}, api.ErrForm},
		{api.Value{Kind: api.VBits, Num: "256", Text: "8"}, api.ErrRange}, {api.Value{Kind: api.VBits, Num: "-1", Text: "8"}, api.ErrRange}, {api.Value{Kind: api.VBits, Num: "2", Text: "1"}, api.ErrRange}, {api.Value{Kind: api.VBits, Num: "18446744073709551616", Text: "64"}, api.ErrRange}, {api.Value{Kind: api.VBits, Num: strings.Repeat("9", 120), Text: "64"}, api.ErrRange},
		{api.Value{Kind: api.VRef}, api.ErrForm}, {api.Value{Kind: api.VRef, Num: "-1"}, api.ErrForm}, {api.Value{Kind: api.VRef, Num: "100000"}, api.ErrForm}, {api.Value{Kind: api.VRef, Num: "01"}, api.ErrForm}, {api.Value{Kind: api.VRef, Num: strings.Repeat("9", 120)}, api.ErrForm}, {api.Value{Kind: api.VRef, Num: "1", Text: "1"}, api.ErrForm}, {api.Value{Kind: api.VRef, Num: "1", Items: item}, api.ErrForm},
		{api.Value{Kind: api.VSeq, Num: "1"}, api.ErrForm}, {api.Value{Kind: api.VSet, Text: "1"}, api.ErrForm}, {api.Value{Kind: api.VMulti, Num: "0"}, api.ErrForm}, {api.Value{Kind: api.VMap, Text: " "}, api.ErrForm}, {api.Value{Kind: api.VCons, Text: "A", Num: "1"}, api.ErrForm},
		{row(201), api.ErrMany}, {api.Value{Kind: api.VSet, Items: row(201).Items}, api.ErrMany}, {api.Value{Kind: api.VMulti, Items: row(201).Items}, api.ErrMany}, {api.Value{Kind: api.VCons, Text: "", Items: row(201).Items}, api.ErrMany}, {api.Value{Kind: api.VMap, Items: row(401).Items}, api.ErrMany}, {api.Value{Kind: api.VMap, Num: "1", Items: row(401).Items}, api.ErrForm}, {api.Value{Kind: api.VMap, Items: row(399).Items}, api.ErrForm},
		{of("map[1 := 2]"), api.OK}, {api.Value{Kind: api.VMap, Items: item}, api.ErrForm},
		{of("{2, 1}"), api.ErrOrder}, {of("{1, 1}"), api.ErrOrder}, {of("{1, true}"), api.ErrOrder}, {of("multiset{2, 1}"), api.ErrOrder}, {of("map[2 := 1, 1 := 2]"), api.ErrOrder}, {of("map[1 := 1, 1 := 2]"), api.ErrOrder}, {of("{1, 2, 01}"), api.ErrForm}, {of("{2, 1, {1, 1}}"), api.ErrOrder}, {of("[{2, 1}, 01]"), api.ErrOrder}, {of("[01, {2, 1}]"), api.ErrForm}, {of("{2, [9bv2], 1}"), api.ErrRange},
		{nested(60, one), api.ErrDeep}, {nested(60, api.Value{Kind: 99}), api.ErrDeep}, {nested(59, api.Value{Kind: 99}), api.ErrKind}, {large(4001), api.ErrLarge},
	} {
		if e := Check(c.v); e != c.want {
			t.Errorf("%d: Check: %d, want %d", i, e, c.want)
		}
	}
	many := large(4001)
	many.Items[39].Items[58] = api.Value{Kind: 99} // the value number 4000
	if e := Check(many); e != api.ErrKind {
		t.Errorf("Check of an error before the limit: %d", e)
	}
	last := large(4001)
	part := last.Items[len(last.Items)-1].Items
	part[len(part)-1] = api.Value{Kind: 99}
	if e := Check(last); e != api.ErrLarge {
		t.Errorf("Check of an error behind the limit: %d", e)
	}
	first := large(4001)
	first.Items[0].Kind = 99
	if e := Check(first); e != api.ErrKind {
		t.Errorf("Check of an error at the beginning: %d", e)
	}
	unordered := large(4001)
	unordered.Items[0] = of("{2, 1}")
	if e := Check(unordered); e != api.ErrOrder {
		t.Errorf("Check of an unordered set at the beginning: %d", e)
	}
	unordered = large(4002)
	unordered.Kind = api.VSet
	if e := Check(unordered); e != api.ErrLarge {
		t.Errorf("Check of an unordered set: %d", e)
	}
}

// TestNames is for P6.1: the names of constructors.
func TestNames(t *testing.T) {
	for c := range 256 {
		one, two := string([]byte{byte(c)}), "q"+string([]byte{byte(c)})
		letter := 'a' <= c && c <= 'z' || 'A' <= c && c <= 'Z'
		part := letter || '0' <= c && c <= '9' || c == '_'
		if e := Check(api.Value{Kind: api.VCons, Text: one}); (e == api.OK) != letter {
			t.Errorf("Check of the constructor %q: %d", one, e)
		}
		if e := Check(api.Value{Kind: api.VCons, Text: two}); (e == api.OK) != part {
			t.Errorf("Check of the constructor %q: %d", two, e)
		}
	}
	for _, s := range []string{"", "1", "_a", "a-b", "a b", "é", "A::", "::A", "A::B::C", "A:B", "A:::B", "::", "A::1", "A::_b", "A:: B", "A\x00", "A\xff", "Abcdefghijklmnopqrstuvwxy", "A::Abcdefghijklmnopqrstuvwxy", "Abcdefghijklmnopqrstuvwxy::A"} {
		if e := Check(api.Value{Kind: api.VCons, Text: s}); e != api.ErrForm {
			t.Errorf("Check of the constructor %q: %d", s, e)
		}
	}
}

// TestRing is for P6.1: a value that contains itself is too deep.
func TestRing(t *testing.T) {
	items := make([]api.Value, 1)
	items[0] = api.Value{Kind: api.VSeq, Items: items}
	if e := Check(items[0]); e != api.ErrDeep {
		t.Errorf("Check: %d", e)
	}
	both := make([]api.Value, 2)
	both[0], both[1] = of("1"), api.Value{Kind: api.VSeq, Items: both}
	if _, e := Text(both[1]); e != api.ErrDeep {
		t.Errorf("Text: %d", e)
	}
}

// ascending are values in ascending order.
var ascending = []string{
	"false", "true", "-12", "-2", "-1", "0", "1", "2", "10", "12", "100", "-1/1", "-1/2", "0/1", "1/3", "1/2", "2/3", "1/1", "10/1",
	"0bv1", "1bv1", "0bv2", "3bv2", "9bv8", "10bv8", "0bv10", "0bv64",
	"[]", "[0]", "[1]", "[10]", "[[]]", "[0, 5]", "[1, 0]", "[1, 2]", "[0, 0, 0]",
	"{}", "{0}", "{2}", "{0, 1}", "{0, 2}", "{1, 2}", "multiset{}", "multiset{3}", "multiset{1, 1}", "multiset{1, 2}",
	"map[]", "map[0 := 1]", "map[0 := 2]", "map[1 := 0]", "map[0 := 0, 1 := 0]",
	"A()", "A(1)", "A(2)", "A(1, 1)", "A::C()", "AB()", "B()", "M::A()", "a()", "#0", "#2", "#10", "#99999",
}

// TestOrder is for P6.1: the order of values of all kinds.
func TestOrder(t *testing.T) {
	for i, a := range ascending {
		for j, b := range ascending {
			want := 0
			if i < j {
				want = -1
			} else if i > j {
				want = 1
			}
			if got, e := Compare(of(a), of(b)); got != want || e != api.OK {
				t.Errorf("Compare(%s, %s): %d, %d, want %d", a, b, got, e, want)
			}
		}
	}
	bad, worse := of("{1, 1}"), of("01")
	if c, e := Compare(bad, worse); c != 0 || e != api.ErrOrder {
		t.Errorf("Compare of two that are not well-formed: %d, %d", c, e)
	}
	if c, e := Compare(of("1"), worse); c != 0 || e != api.ErrForm {
		t.Errorf("Compare with one that is not well-formed: %d, %d", c, e)
	}
}

// TestMeasures is for P6.1: heights, sizes and references.
func TestMeasures(t *testing.T) {
	for _, c := range []struct {
		s            string
		height, size int
		refs         []int
	}{
		{"1", 0, 1, nil}, {"#7", 0, 1, []int{7}}, {"[]", 0, 1, nil}, {"A()", 1, 1, nil}, {"M::Cons(1, M::Nil())", 2, 3, nil}, {"A(B(), C(D(), 1), 2)", 3, 6, nil}, {"[A(), B(A())]", 2, 4, nil}, {"A([B([C()])])", 3, 5, nil},
		{"map[1 := A(), 2 := B(#3, #1)]", 1, 7, []int{1, 3}}, {"map[A(#10) := #2, #2 := #3]", 1, 6, []int{2, 3, 10}}, {"[#3, #1, #3]", 0, 4, []int{1, 3}}, {"{#99999}", 0, 2, []int{99999}}, {"multiset{1, 1}", 0, 3, nil}, {"[1, 2, 3/1, 4bv8, true]", 0, 6, nil},
	} {
		v := of(c.s)
		height, e := Height(v)
		size, f := Size(v)
		refs, g := Refs(v)
		if height != c.height || size != c.size || !slices.Equal(refs, c.refs) || e != api.OK || f != api.OK || g != api.OK {
			t.Errorf("%s: height %d, size %d, objects %v", c.s, height, size, refs)
		}
	}
	if n, e := Size(large(4000)); n != 4000 || e != api.OK {
		t.Errorf("Size: %d, %d", n, e)
	}
	bad := of("[#1, A(), 01]")
	height, e := Height(bad)
	size, f := Size(bad)
	refs, g := Refs(bad)
	if height != 0 || size != 0 || len(refs) > 0 || e != api.ErrForm || f != api.ErrForm || g != api.ErrForm {
		t.Errorf("measures of a value that is not well-formed: %d, %d, %v", e, f, g)
	}
}

// TestTotalOrder is for P6.5: the order is antisymmetric and transitive, and equal values are those of which Compare returns 0.
func TestTotalOrder(t *testing.T) {
	m := maker{rand.New(rand.NewSource(61))}
	for range 20000 {
		l := m.values(3, 3)
		ab, e := Compare(l[0], l[1])
		ba, _ := Compare(l[1], l[0])
		bc, _ := Compare(l[1], l[2])
		ac, _ := Compare(l[0], l[2])
		switch {
		case e != api.OK, ab != -ba, ab < -1, ab > 1, (ab == 0) != same(l[0], l[1]), ab <= 0 && bc <= 0 && ac > 0, ab <= 0 && bc <= 0 && (ab < 0 || bc < 0) && ac == 0:
			t.Fatalf("%s: %d %d %d %d, %d", show(l), ab, ba, bc, ac, e)
		}
	}
}
