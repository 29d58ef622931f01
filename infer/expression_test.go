package infer

import (
	"slices"
	"strconv"
	"strings"
	"testing"

	"entail/api"
	"entail/parse"
)

// TestExpressions is for P8.2: the types of all kinds of expressions.
func TestExpressions(t *testing.T) {
	p := programOf(t, samples)
	for s, want := range map[string]string{
		"1": "int", "1.5": "real", "true": "bool", "x": "int", "y": "int", "l": "List<int>", "row_s": "seq<int>", "h": "Cell", "limit": "int", "M::table": "map<int,seq<int>>",
		"!b": "bool", "-x": "int", "-q": "real", "-w": "bv8", "x + y": "int", "x - y": "int", "x * y": "int", "w - w": "bv8", "u * u": "multiset<bool>", "q - 0.5": "real", "w * w": "bv8", "z + z": "set<real>", "u - u": "multiset<bool>", "z * z": "set<real>", "s + s": "seq<int>", "m + m": "map<int,seq<int>>", "m + map[]": "map<int,seq<int>>", "[] + s": "seq<int>",
		"x / 2": "int", "q / q": "real", "w / w": "bv8", "x % 2": "int", "w % w": "bv8", "b && b": "bool", "b || b": "bool", "b ==> b": "bool", "b <==> b": "bool", "x == y": "bool", "l != Nil": "bool", "c == h": "bool", "Nil == l": "bool", "(set i: int | b :: Nil) == {l}": "bool",
		"x < y": "bool", "q <= q": "bool", "w < w": "bool", "s <= []": "bool", "{} < z": "bool", "u <= multiset{}": "bool", "x in s": "bool", "q in z": "bool", "b in u": "bool", "x in m": "bool", "Nil in [l]": "bool", "[] in [s]": "bool",
		"w & w": "bv8", "w | w": "bv8", "w ^ w": "bv8", "w << x": "bv8", "w >> 1": "bv8", "(x as real)": "real", "(q as Nat)": "int", "(w as bv16)": "bv16", "(x as int)": "int",
		"if b then x else y": "int", "if b then [] else s": "seq<int>", "var i := x; i + 1": "int", "var i := []; i + s": "seq<int>", "var i := Nil; if i == l then i else i": "List<int>",
		"len(l)": "int", "len(Nil)": "open", "choose(x, b, 1)": "Pair<bool,int>", "choose([], {}, y) == Two({1}, [b])": "bool", "unit()": "real", "row(s)": "seq<int>", "row([])": "seq<int>", "any()": "open",
		"Nil": "open", "Cons(s, Nil)": "List<seq<int>>", "Cons(Nil, Cons(l, Nil))": "List<List<int>>", "Two(x, b)": "Pair<int,bool>", "Done": "Loop", "More(Done)": "Loop", "Ghost(1)": "open", "Ghost(1) == Ghost(2)": "open",
		"l.head": "int", "l.tail": "List<int>", "l.tail.tail.head": "int", "p.fst": "int", "p.snd": "bool", "c.v": "int", "h.old_v": "int", "n.next.next": "Node", "n.items": "seq<int>", "n.cell.v": "int", "Two(l, p).fst": "List<int>",
		"l.Cons?": "bool", "l.Nil?": "bool", "Done.More?": "bool", "Nil.Nil?": "open", "Cons(1, Nil).Nil?": "bool",
		"s[0]": "int", "a[x]": "int", "m[1]": "seq<int>", "m[1][2]": "int", "u[b]": "int", "s[1..2]": "seq<int>", "s[0 := 1]": "seq<int>", "m[1 := []]": "map<int,seq<int>>", "u[b := 2]": "multiset<bool>", "[Nil, l][0]": "List<int>", "[[], s][x := []]": "seq<seq<int>>",
		"#s": "int", "#z": "int", "#u": "int", "#m": "int", "#a": "int", "#{1}": "int", "[1, x]": "seq<int>", "{q}": "set<real>", "multiset{b, b}": "multiset<bool>", "map[1 := b, 2 := b]": "map<int,bool>", "[[], [1], []]": "seq<seq<int>>", "map[x := Nil, y := l]": "map<int,List<int>>", "[]": "open", "map[]": "open", "map[1 := []]": "open", "[{}, {}]": "open",
		"forall i: int :: i < x": "bool", "exists i: Nat, j: List<Nat> :: j.head == i": "bool", "forall i: int {s[i]} {Nil == l, [i]} :: b": "bool", "forall i: Row :: i == s": "bool", "set i: int | i in s :: [i]": "set<seq<int>>", "set i: Row | #i == 1 :: i": "set<seq<int>>",
		"match l { case Nil => 0 case Cons(i, j) => i + len(j) }": "int", "match x { case 0 => [] case -1 => s case i => [i] }": "seq<int>", "match b { case true => 1 case false => 2 }": "int", "match p { case Two(i, true) => i case Two(_, j) => x }": "int", "match s { case i => i }": "seq<int>", "match Nil { case Cons(i, _) => i case Nil => x }": "int",
		"match Two(l, Cons(b, Nil)) { case Two(Cons(i, _), Cons(j, _)) => map[i := j] case _ => map[] }": "map<int,bool>", "match Cons([], Nil) { case Cons(i, _) => i + s case _ => s }": "seq<int>",
		"old(x)": "int", "fresh(c)": "bool", "fresh(a)": "bool", "fresh(h)": "bool", "old(#a) + 1": "int",
		"var x := b; x": "bool", "forall x: real :: x < 1.0": "bool", "match s { case x => x[0] }": "int",
	} {
		e := expressionOf(t, s)
		got, errno := TypeOf(p, e, variables())
		types, node, other := Expression(p, e, variables())
		if want == "open" {
			if got != "" || errno != api.ErrOpen || other != api.ErrOpen || len(types) > 0 {
				t.Errorf("TypeOf(%q): %q, %d, want ErrOpen", s, got, errno)
			}
			continue
		}
		if got != want || errno != api.OK {
			t.Errorf("TypeOf(%q): %q, %d, want %q", s, got, errno, want)
			continue
		}
		if len(types) != len(e) || node != 0 || other != api.OK || types[len(e)-1] != want {
			t.Errorf("Expression(%q): %q, %d, %d", s, types, node, other)
		}
	}
}

// TestWidths is for P8.2: bit vectors of all widths, and types whose names have digits.
func TestWidths(t *testing.T) {
	p := programOf(t, "datatype Z9 = Y0 class B2 { var bits2: bv2; }")
	for width := 1; width <= 64; width++ {
		typ := "bv" + strconv.Itoa(width)
		vars := []api.Bound{{Name: "w", Sort: typ}, {Name: "z", Sort: "Z9"}, {Name: "b", Sort: "B2"}}
		for s, want := range map[string]string{"-w + w * w - w / w % w": typ, "(w & w | w ^ w) << 1 >> 2": typ, "w < w": "bool", "(w as bv64)": "bv64", "(1 as " + typ + ")": typ, "z == Y0": "bool", "b.bits2": "bv2"} {
			if got, e := TypeOf(p, expressionOf(t, s), vars); got != want || e != api.OK {
				t.Errorf("TypeOf(%q) for %s: %q, %d", s, typ, got, e)
			}
		}
		if _, e := TypeOf(p, expressionOf(t, "z + z"), vars); e != api.ErrType {
			t.Errorf("the sum of values of a datatype: %d", e)
		}
	}
}

// TestNodes is for P8.2: the types of all nodes, also of patterns, and no types of others.
func TestNodes(t *testing.T) {
	p := programOf(t, samples)
	for s, want := range map[string]string{
		"[] + s":                        "seq<int> seq<int> seq<int>",
		"(x as Nat) + y":                "int - int int int",
		"forall i: Nat {[i]} :: i == x": "- - int seq<int> - int int bool bool",
		"match l { case Cons(-1, Cons(i, _)) => Nil case Nil => l case _ => l }": "List<int> int int int int List<int> List<int> List<int> List<int> - List<int> List<int> - List<int> List<int> - List<int>",
		"match b { case true => 0 case x => 1 }":                                 "bool bool bool int - bool int - int",
		"var i := []; i + s":                                                     "seq<int> seq<int> seq<int> seq<int> seq<int>",
		"choose(Nil, 1, 2).snd == l":                                             "List<int> int int Pair<int,List<int>> List<int> List<int> bool",
		"map[1 := [], 2 := s]":                                                   "int seq<int> int seq<int> map<int,seq<int>>",
	} {
		types, _, e := Expression(p, expressionOf(t, s), variables())
		for i := range types {
			if types[i] == "" {
				types[i] = "-"
			}
		}
		if got := strings.Join(types, " "); got != want || e != api.OK {
			t.Errorf("Expression(%q):\n%s, %d, want\n%s", s, got, e, want)
		}
	}
}

// TestExpressionErrors is for P8.2: the first error, with its node.
func TestExpressionErrors(t *testing.T) {
	p := programOf(t, samples)
	for _, c := range []struct {
		s, at string
		among int
		want  api.Errno
	}{
		{"1 + 1.0", "1 + 1.0", 0, api.ErrType}, {"#([] + [])", "[]", 0, api.ErrOpen}, {"x in 3", "x in 3", 0, api.ErrType}, {"[x] + [b]", "[x] + [b]", 0, api.ErrType},
		// names
		{"o", "o", 0, api.ErrUnknown}, {"x + M::o", "M::o", 0, api.ErrUnknown}, {"len", "len", 0, api.ErrUnknown}, {"limit()", "limit()", 0, api.ErrUnknown}, {"o(x)", "o(x)", 0, api.ErrUnknown}, {"o(1 + 1.0)", "1 + 1.0", 0, api.ErrType}, {"List", "List", 0, api.ErrUnknown}, {"Nope", "Nope", 0, api.ErrUnknown}, {"Nope(o)", "o", 0, api.ErrUnknown}, {"x.Nope?", "x.Nope?", 0, api.ErrUnknown}, {"x.List?", "x.List?", 0, api.ErrUnknown}, {"(var i := 1; i) + i", "i", 1, api.ErrUnknown}, {"(forall i: int :: b) && i", "i", 0, api.ErrUnknown},
		{"match l { case Nope => 1 }", "Nope", 0, api.ErrUnknown}, {"match l { case List => 1 }", "List", 0, api.ErrUnknown}, {"match l { case Cons(i, _) => i case _ => i }", "i", 2, api.ErrUnknown}, {"var i := i; i", "i", 0, api.ErrUnknown},
		// arguments
		{"len()", "len()", 0, api.ErrArgs}, {"len(l, l)", "len(l, l)", 0, api.ErrArgs}, {"unit(x)", "unit(x)", 0, api.ErrArgs}, {"len(o, x)", "o", 0, api.ErrUnknown}, {"Cons(1)", "Cons(1)", 0, api.ErrArgs}, {"Nil(1)", "Nil(1)", 0, api.ErrArgs}, {"Done(o)", "o", 0, api.ErrUnknown}, {"match l { case Cons(i) => 1 }", "Cons(i)", 0, api.ErrArgs}, {"match x { case Cons(i) => 1 }", "Cons(i)", 0, api.ErrArgs}, {"match l { case Nil(i) => 1 }", "Nil(i)", 0, api.ErrArgs},
		// members
		{"l.nope", "l.nope", 0, api.ErrUnknown}, {"c.next", "c.next", 0, api.ErrUnknown}, {"x.head", "x.head", 0, api.ErrType}, {"s.head", "s.head", 0, api.ErrType}, {"a.v", "a.v", 0, api.ErrType}, {"[].head", "[].head", 0, api.ErrType}, {"[][0].head", "[][0].head", 0, api.ErrOpen}, {"Nil.head", "Nil", 0, api.ErrOpen}, {"Nil.nope", "Nil.nope", 0, api.ErrUnknown}, {"Nil.head.head", "Nil.head.head", 0, api.ErrOpen},
		// types
		{"!x", "!x", 0, api.ErrType}, {"b && x", "b && x", 0, api.ErrType}, {"x ==> b", "x ==> b", 0, api.ErrType}, {"x == q", "x == q", 0, api.ErrType}, {"x < q", "x < q", 0, api.ErrType}, {"x in l", "x in l", 0, api.ErrType}, {"q in s", "q in s", 0, api.ErrType}, {"x in a", "x in a", 0, api.ErrType}, {"w & x", "w & x", 0, api.ErrType}, {"w << w", "w << w", 0, api.ErrType}, {"if x then x else x", "if x then x else x", 0, api.ErrType}, {"if b then x else q", "if b then x else q", 0, api.ErrType},
		{"len(1)", "len(1)", 0, api.ErrType}, {"len([])", "len([])", 0, api.ErrType}, {"row([b])", "row([b])", 0, api.ErrType}, {"Cons(1, Cons(b, Nil))", "Cons(1, Cons(b, Nil))", 0, api.ErrType}, {"x.Nil?", "x.Nil?", 0, api.ErrType}, {"Done.Nil?", "Done.Nil?", 0, api.ErrType}, {"s[b]", "s[b]", 0, api.ErrType}, {"x[0]", "x[0]", 0, api.ErrType}, {"z[0]", "z[0]", 0, api.ErrType}, {"l[0]", "l[0]", 0, api.ErrType}, {"m[q]", "m[q]", 0, api.ErrType}, {"u[x]", "u[x]", 0, api.ErrType}, {"a[q]", "a[q]", 0, api.ErrType}, {"s[0..q]", "s[0 .. q]", 0, api.ErrType},
		{"m[0..1]", "m[0..1]", 0, api.ErrType}, {"a[0..1]", "a[0..1]", 0, api.ErrType}, {"s[0 := b]", "s[0 := b]", 0, api.ErrType}, {"s[b := 0]", "s[b := 0]", 0, api.ErrType}, {"a[0 := 1]", "a[0 := 1]", 0, api.ErrType}, {"z[q := 1]", "z[q := 1]", 0, api.ErrType}, {"u[b := b]", "u[b := b]", 0, api.ErrType}, {"m[1 := b]", "m[1 := b]", 0, api.ErrType}, {"#x", "#x", 0, api.ErrType}, {"#l", "#l", 0, api.ErrType}, {"#c", "#c", 0, api.ErrType},
		{"[1, b]", "[1, b]", 0, api.ErrType}, {"{1, b}", "{1, b}", 0, api.ErrType}, {"map[1 := 1, b := 1]", "map[1 := 1, b := 1]", 0, api.ErrType}, {"map[1 := 1, 1 := b]", "map[1 := 1, 1 := b]", 0, api.ErrType}, {"forall i: int :: i", "forall i: int :: i", 0, api.ErrType}, {"set i: int | i :: i", "set i: int | i :: i", 0, api.ErrType}, {"match x { case 0 => 1 case _ => b }", "match x { case 0 => 1 case _ => b }", 0, api.ErrType}, {"fresh(x)", "fresh(x)", 0, api.ErrType}, {"fresh(l)", "fresh(l)", 0, api.ErrType},
		{"match l { case 0 => 1 }", "0", 1, api.ErrType}, {"match x { case true => 1 }", "true", 1, api.ErrType}, {"match l { case Done => 1 }", "Done", 0, api.ErrType}, {"match l { case Cons(true, _) => 1 }", "true", 1, api.ErrType}, {"match x { case Nil => 1 }", "Nil", 0, api.ErrType}, {"match l { case Cons(Nil, _) => 1 }", "Nil", 0, api.ErrType}, {"match q { case 0 => 1 }", "0", 1, api.ErrType},
		// a type that would occur in itself
		{"var i := []; i == [i]", "i == [i]", 0, api.ErrType}, {"var i := Nil; Cons(i, i)", "Cons(i, i)", 0, api.ErrType}, {"var i := [][0]; var j := [][0]; var k := [][0]; [i == [j], j == [k], k == i]", "k == i", 0, api.ErrType}, {"var i := [][0]; var j := [][0]; var k := [][0]; [i == [j], j == [k], k == j]", "k == j", 0, api.ErrType}, {"var i := Nil; i == Cons(i, Nil)", "i == Cons(i, Nil)", 0, api.ErrType},
		// heads that are asked in the end, in the order of the nodes, behind errors of later nodes
		{"b + b", "b + b", 0, api.ErrType}, {"l + l", "l + l", 0, api.ErrType}, {"s - s", "s - s", 0, api.ErrType}, {"m - m", "m - m", 0, api.ErrType}, {"s * s", "s * s", 0, api.ErrType}, {"z / z", "z / z", 0, api.ErrType}, {"q % q", "q % q", 0, api.ErrType}, {"b < b", "b < b", 0, api.ErrType}, {"l <= l", "l <= l", 0, api.ErrType}, {"m < m", "m < m", 0, api.ErrType}, {"x & x", "x & x", 0, api.ErrType}, {"x << x", "x << x", 0, api.ErrType}, {"-b", "-b", 0, api.ErrType}, {"-s", "-s", 0, api.ErrType}, {"c + c", "c + c", 0, api.ErrType}, {"a + a", "a + a", 0, api.ErrType},
		{"(b as int)", "(b as int)", 0, api.ErrType}, {"(x as bool)", "(x as bool)", 0, api.ErrType}, {"(s as Row)", "(s as Row)", 0, api.ErrType}, {"([][0] as int)", "([][0] as int)", 0, api.ErrOpen}, {"([][0] as bool)", "([][0] as bool)", 0, api.ErrOpen},
		{"[b + b, x]", "[b + b, x]", 0, api.ErrType}, {"[-b, o]", "o", 0, api.ErrUnknown}, {"(-b) == (x + x == 1)", "-b", 0, api.ErrType}, {"[b < b, l < l]", "b < b", 0, api.ErrType}, {"[][0] + [][0] == [][0]", "[][0] + [][0]", 0, api.ErrOpen}, {"[[][0] < [][0], b < b]", "[][0] < [][0]", 0, api.ErrOpen}, {"-b == ([] == [])", "-b", 0, api.ErrType},
		// what is not known when it is asked
		{"[][0][0]", "[][0][0]", 0, api.ErrOpen}, {"x in [][0]", "x in [][0]", 0, api.ErrOpen}, {"#[][0]", "#[][0]", 0, api.ErrOpen}, {"[][0][0..1]", "[][0][0..1]", 0, api.ErrOpen}, {"[][0][0 := 1]", "[][0][0 := 1]", 0, api.ErrOpen}, {"fresh([][0])", "fresh([][0])", 0, api.ErrOpen}, {"([][0].v == 1) && b", "[][0].v", 0, api.ErrOpen}, {"var i := [][0]; i.v + i.v", "i.v", 0, api.ErrOpen}, {"var i := [][0]; i == l && i.head == 1", "", 0, api.OK},
		// what is not known in the end: the first node, then the type arguments
		{"[] == []", "[]", 0, api.ErrOpen}, {"var i := [][0]; i == []", "[]", 0, api.ErrOpen}, {"var i := [][0]; var j := [][0]; i == [j] && j == l", "", 0, api.OK}, {"x == x && [] == []", "[]", 0, api.ErrOpen}, {"len(Nil) == 0", "Nil", 0, api.ErrOpen}, {"any() + 1", "any()", 0, api.ErrOpen}, {"1 + any()", "any()", 0, api.ErrOpen}, {"[any(), #([] + [])]", "[]", 0, api.ErrOpen}, {"any() + Ghost(1).n", "Ghost(1)", 0, api.ErrOpen}, {"match Ghost(1) { case Ghost(i) => i }", "Ghost(1)", 0, api.ErrOpen}, {"any() == any()", "any()", 0, api.ErrOpen}, {"(Nil.Nil? == b) && b", "Nil", 0, api.ErrOpen}, {"match [][0] { case i => x }", "[]", 0, api.ErrOpen},
		// types that stand in the expression come before all else
		{"o + (x as Nope)", "Nope", 0, api.ErrUnknown}, {"o && (forall i: List :: b)", "List", 0, api.ErrArgs}, {"o && (forall i: seq<List<Nope>> :: b)", "seq<List<Nope>>", 0, api.ErrUnknown}, {"set i: T | b :: i", "T", 0, api.ErrUnknown}, {"forall i: Nat<int> :: b", "Nat<int>", 0, api.ErrArgs}, {"exists i: Nil :: b", "Nil", 0, api.ErrUnknown},
	} {
		e := expressionOf(t, c.s)
		at := 0
		if c.at != "" {
			at = place(t, e, 0, strings.ReplaceAll(c.at, " .. ", ".."), c.among)
		}
		types, node, errno := Expression(p, e, variables())
		if node != at || errno != c.want || (len(types) > 0) != (errno == api.OK) {
			t.Errorf("Expression(%q): %d, %d, want %d, %d", c.s, node, errno, at, c.want)
		}
		if typ, errno := TypeOf(p, e, variables()); errno != c.want || (typ != "") != (errno == api.OK) {
			t.Errorf("TypeOf(%q): %q, %d, want %d", c.s, typ, errno, c.want)
		}
	}
}

// TestExpressionArguments is for P8.2: the errors of the program, the expression and the variables, in their order.
func TestExpressionArguments(t *testing.T) {
	p := programOf(t, samples+names()+"type Round = r: seq<Round> | true witness [] type Long = r: "+long(399)+" | true witness map[] type Longer = r: seq<Long> | true witness map[]")
	x := expressionOf(t, "o")
	list := func(count int) []api.Bound {
		var out []api.Bound
		for i := range count {
			out = append(out, api.Bound{Name: "v" + strconv.Itoa(i), Sort: "int"})
		}
		return out
	}
	statement, _, _ := parse.Statement("return;")
	for i, c := range []struct {
		program, e api.Tree
		vars       []api.Bound
		want       api.Errno
	}{
		{nil, nil, list(101), api.ErrEmpty},
		{x, nil, list(101), api.ErrKind},
		{programOf(t, "module A { }"), nil, list(101), api.ErrKind},
		{programOf(t, "const c: int := 1; const c: int := 2;"), nil, list(101), api.ErrTwice},
		{p, nil, list(101), api.ErrEmpty},
		{p, api.Tree{{Op: api.EVar, Text: "X"}}, list(101), api.ErrName},
		{p, statement, list(101), api.ErrKind},
		{p, p, list(101), api.ErrKind},
		{p, x, list(101), api.ErrMany},
		{p, x, list(100), api.ErrUnknown},
		{p, x, []api.Bound{{Name: "X", Sort: ""}}, api.ErrName},
		{p, x, []api.Bound{{Name: "", Sort: "int"}}, api.ErrName},
		{p, x, []api.Bound{{Name: "M::x", Sort: "int"}}, api.ErrName},
		{p, x, []api.Bound{{Name: "if", Sort: "int"}}, api.ErrName},
		{p, x, []api.Bound{{Name: "_", Sort: "int"}}, api.ErrName},
		{p, x, []api.Bound{{Name: "o", Sort: "int"}, {Name: "o", Sort: ""}}, api.ErrTwice},
		{p, x, []api.Bound{{Name: "v", Sort: "Nope"}, {Name: "v", Sort: ""}}, api.ErrUnknown},
		{p, x, []api.Bound{{Name: "v", Sort: "no type"}}, api.ErrSyntax},
		{p, x, []api.Bound{{Name: "v", Sort: strings.Repeat("x", 401)}}, api.ErrLong},
		{p, x, []api.Bound{{Name: "v", Sort: "List"}}, api.ErrArgs},
		{p, x, []api.Bound{{Name: "v", Sort: "T"}}, api.ErrUnknown},
		{p, x, []api.Bound{{Name: "v", Sort: "seq<Round>"}}, api.ErrCycle},
		{p, x, []api.Bound{{Name: "v", Sort: "Longer"}}, api.ErrLong},
		{p, x, []api.Bound{{Name: "o", Sort: "Nat"}}, api.OK},
		{p, expressionOf(t, "limit"), []api.Bound{{Name: "limit", Sort: "real"}}, api.OK},
	} {
		types, node, e := Expression(c.program, c.e, c.vars)
		typ, f := TypeOf(c.program, c.e, c.vars)
		if node != 0 || e != c.want || f != c.want || (len(types) > 0) != (e == api.OK) || (typ != "") != (f == api.OK) {
			t.Errorf("%d: Expression: %q, %d, %d, TypeOf: %q, %d, want %d", i, types, node, e, typ, f, c.want)
		}
	}
	if typ, _ := TypeOf(p, expressionOf(t, "limit"), []api.Bound{{Name: "limit", Sort: "real"}}); typ != "real" {
		t.Errorf("a variable with the name of a constant has the type %q", typ)
	}
	for s, want := range map[string]api.Errno{"b && (exists i: Round :: b)": api.ErrCycle, "b && (exists i: set<Longer> :: b)": api.ErrLong} {
		e := expressionOf(t, s)
		at := slices.IndexFunc(e, func(n api.Node) bool { return n.Op == api.QVar }) - 1
		if _, node, errno := Expression(p, e, variables()); node != at || errno != want {
			t.Errorf("Expression(%q): %d, %d, want %d, %d", s, node, errno, at, want)
		}
	}
}
