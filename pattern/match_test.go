package pattern

import (
	"slices"
	"strings"
	"testing"

	"entail/api"
	"entail/value"
)

// TestCheck is for P10.1: the variables of patterns, with base types.
func TestCheck(t *testing.T) {
	p := programOf(t, samples)
	for _, c := range []struct {
		typ, pattern, want string
	}{
		{"D", "Cons(x, Cons(y, _))", "x:int y:int"},
		{"D", "_", ""},
		{"D", "x", "x:D"},
		{"Nat", "x", "x:int"},
		{"Nat", "-3", ""},
		{"Byte", "x", "x:bv8"},
		{"Byte", "255", ""},
		{"Row", "Some(y, x)", "y:int x:List<int>"},
		{"List<Nat>", "Some(y, Some(_, x))", "y:int x:List<int>"},
		{"List<Pair<Nat, Row>>", "Some(Two(a, Some(b, _)), c)", "a:int b:int c:List<Pair<int,List<int>>>"},
		{"Mixed", "Of(n, l, c, s, r)", "n:int l:List<int> c:Cell s:seq<int> r:real"},
		{"Mixed", "Of(0, Some(1, None), _, _, _)", ""},
		{"Mixed", "Flag(true)", ""},
		{"Bits", "Both(1, 3)", ""},
		{"Bits", "Both(0, -0)", ""},
		{"Bits", "Wide(31)", ""},
		{"bool", "false", ""},
		{"bool", "z", "z:bool"},
		{"int", "-0", ""},
		{"int", strings.Repeat("9", 120), ""},
		{"int", "-" + strings.Repeat("9", 120), ""},
		{"bv64", "18446744073709551615", ""},
		{"bv1", "1", ""},
		{"seq<Nat>", "s", "s:seq<int>"},
		{"array<int>", "_", ""},
		{"Cell", "c", "c:Cell"},
		{"Loop", "More(More(x))", "x:Loop"},
		{"Grow<int>", "Node(Node(Leaf(x)))", "x:map<map<int,int>,map<int,int>>"},
		{"Odd", "Bad(x)", "x:"}, // a type without a base
		{"Odd", "Good(_)", ""},  // a type that is not well-formed
		{"Odd", "Good(x)", "x:List"},
		{"Odd", "Fine", ""},
	} {
		typ := strings.ReplaceAll(c.typ, " ", "")
		vars, node, e := Check(p, typ, of(t, c.pattern))
		var got []string
		for _, v := range vars {
			got = append(got, v.Name+":"+v.Sort)
		}
		if strings.Join(got, " ") != c.want || node != 0 || e != api.OK {
			t.Errorf("Check(%s, %s): %q, %d, %d, want %q", typ, c.pattern, got, node, e, c.want)
		}
	}
}

// TestCheckErrors is for P10.1: the node of the least index with an error, and the error.
func TestCheckErrors(t *testing.T) {
	p := programOf(t, samples)
	for _, c := range []struct {
		typ, pattern string
		node         int
		want         api.Errno
	}{
		{"D", "One", 0, api.ErrUnknown},
		{"D", "None", 0, api.ErrUnknown},
		{"D", "Cons(One, One)", 0, api.ErrUnknown}, // an int has no constructors
		{"D", "Cons(_, One)", 1, api.ErrUnknown},
		{"D", "One(true, x, x)", 4, api.ErrUnknown}, // nodes below it are not looked at
		{"int", "Nil", 0, api.ErrUnknown},
		{"bool", "Nil", 0, api.ErrUnknown},
		{"bv8", "Nil", 0, api.ErrUnknown},
		{"Cell", "Nil", 0, api.ErrUnknown},
		{"seq<D>", "Nil", 0, api.ErrUnknown},
		{"D", "Nil(x)", 1, api.ErrArgs},
		{"D", "Cons", 0, api.ErrArgs},
		{"D", "Cons(x)", 1, api.ErrArgs},
		{"D", "Cons(x, y, z)", 3, api.ErrArgs},
		{"D", "Cons(x, y, x)", 3, api.ErrArgs}, // the parts beyond are not looked at
		{"D", "Cons(x, x, x)", 1, api.ErrTwice},
		{"D", "Cons(true)", 1, api.ErrType},
		{"D", "Cons(true, _)", 1, api.ErrType},
		{"D", "Cons(0, 0)", 3, api.ErrType},
		{"D", "0", 1, api.ErrType},
		{"D", "true", 1, api.ErrType},
		{"bool", "0", 1, api.ErrType},
		{"bool", "-1", 2, api.ErrType},
		{"int", "false", 1, api.ErrType},
		{"real", "0", 1, api.ErrType},
		{"seq<int>", "0", 1, api.ErrType},
		{"Cell", "true", 1, api.ErrType},
		{"bv8", "true", 1, api.ErrType},
		{"bv8", "256", 1, api.ErrRange},
		{"bv8", "-1", 2, api.ErrRange},
		{"bv64", "18446744073709551616", 1, api.ErrRange},
		{"bv1", "2", 1, api.ErrRange},
		{"Byte", "256", 1, api.ErrRange},
		{"Nat", "true", 1, api.ErrType},
		{"D", "Cons(x, x)", 1, api.ErrTwice},
		{"D", "Cons(x, Cons(x, y))", 1, api.ErrTwice},
		{"D", "Cons(x, Cons(y, y))", 2, api.ErrTwice},
		{"Pair<D,D>", "Two(Cons(x, One), x)", 1, api.ErrUnknown},
		{"Pair<D,D>", "Two(Cons(x), x)", 1, api.ErrArgs},
		{"Pair<D,D>", "Two(Cons(x, y), Cons(y, One))", 3, api.ErrTwice},
		{"Pair<int,bool>", "Two(true, 0)", 1, api.ErrType},
		{"List<bool>", "Some(0, _)", 1, api.ErrType},
		{"Odd", "Bad(None)", 0, api.ErrUnknown},
		{"Odd", "Bad(0)", 1, api.ErrType},
		{"Odd", "Good(None)", 0, api.ErrUnknown},
	} {
		vars, node, e := Check(p, c.typ, of(t, c.pattern))
		if len(vars) > 0 || node != c.node || e != c.want {
			t.Errorf("Check(%s, %s): %v, %d, %d, want %d at %d", c.typ, c.pattern, vars, node, e, c.want, c.node)
		}
	}
}

// typeErrors are the errors of types in the samples.
func typeErrors() map[string]api.Errno {
	return map[string]api.Errno{
		"": api.ErrSyntax, "x": api.ErrSyntax, "Pair<int, int>": api.ErrSyntax, "seq": api.ErrSyntax, strings.Repeat("T", 401): api.ErrLong,
		"T": api.ErrUnknown, "seq<Nix>": api.ErrUnknown, "Nil": api.ErrUnknown, "List": api.ErrArgs, "D<int>": api.ErrArgs, "Nat<int>": api.ErrArgs,
		"Round": api.ErrCycle, "seq<Round>": api.ErrCycle,
	}
}

// TestTypeErrors is for P10.1, P10.2 and P10.3: the errors of the program and of the type come first; their node is 0.
func TestTypeErrors(t *testing.T) {
	p := programOf(t, samples)
	bad := api.Tree{{Op: api.EInt, Text: "1"}}
	many := slices.Repeat([]api.Tree{bad}, 33)
	asks := func(p api.Tree, typ string) []api.Errno {
		_, node, e1 := Check(p, typ, bad)
		if node != 0 {
			t.Errorf("Check of %q: node %d", typ, node)
		}
		_, e2 := Useful(p, typ, many, bad)
		_, _, e3 := Missing(p, typ, many)
		_, e4 := Redundant(p, typ, many)
		_, e5 := Compile(p, typ, many)
		return []api.Errno{e1, e2, e3, e4, e5}
	}
	for typ, want := range typeErrors() {
		if got := asks(p, typ); !slices.Equal(got, slices.Repeat([]api.Errno{want}, 5)) {
			t.Errorf("the type %.30q: %v, want %d", typ, got, want)
		}
	}
	for name, c := range map[string]struct {
		tree api.Tree
		want api.Errno
	}{
		"nothing":      {nil, api.ErrEmpty},
		"too many":     {make(api.Tree, api.MaxNodes+1), api.ErrMany},
		"no tree":      {api.Tree{{Op: api.EVar, Text: "X"}}, api.ErrName},
		"no program":   {api.Tree{{Op: api.EVar, Text: "x"}}, api.ErrKind},
		"a module":     {programOf(t, "module A { }"), api.ErrKind},
		"two modules":  {programOf(t, "module A { } module B { }"), api.ErrKind},
		"with imports": {programOf(t, "import A; const c: int := 1;"), api.ErrKind},
	} {
		if got := asks(c.tree, ""); !slices.Equal(got, slices.Repeat([]api.Errno{c.want}, 5)) {
			t.Errorf("%s: %v, want %d", name, got, c.want)
		}
	}
}

// TestPatternErrors is for P10.1, P10.2 and P10.3: the errors of trees that are no patterns, and their order.
func TestPatternErrors(t *testing.T) {
	p := programOf(t, samples)
	wild, wrong := of(t, "_"), of(t, "0")
	noValue := api.Value{Kind: -1}
	for name, c := range badTrees() {
		vars, node, e := Check(p, "D", c.tree)
		if len(vars) > 0 || node != c.node || e != c.want {
			t.Errorf("Check of %s: %v, %d, %d", name, vars, node, e)
		}
		_, is, e1 := Match(c.tree, noValue)
		first, e2 := First([]api.Tree{wild, c.tree, of(t, "C(x, x)")}, noValue)
		useful, e3 := Useful(p, "D", []api.Tree{wild}, c.tree)
		useful2, e4 := Useful(p, "D", []api.Tree{wild, c.tree, wrong}, wrong)
		missing, found, e5 := Missing(p, "D", []api.Tree{wild, c.tree, wrong})
		redundant, e6 := Redundant(p, "D", []api.Tree{wild, c.tree, wrong})
		tests, e7 := Compile(p, "D", []api.Tree{wild, c.tree, wrong})
		if is || first != 0 || useful || useful2 || len(missing) > 0 || found || len(redundant) > 0 || len(tests) > 0 {
			t.Errorf("%s: results beside errors", name)
		}
		if got := []api.Errno{e1, e2, e3, e4, e5, e6, e7}; !slices.Equal(got, slices.Repeat([]api.Errno{c.want}, 7)) {
			t.Errorf("%s: %v, want %d", name, got, c.want)
		}
	}
	for text, want := range map[string]api.Errno{"One": api.ErrUnknown, "Cons(x)": api.ErrArgs, "Cons(x, x)": api.ErrTwice, "0": api.ErrType} {
		_, e1 := Useful(p, "D", []api.Tree{wild}, of(t, text))
		_, e2 := Useful(p, "D", []api.Tree{wild, of(t, text)}, of(t, "Wrong"))
		_, _, e3 := Missing(p, "D", []api.Tree{wild, of(t, text), of(t, "Wrong")})
		_, e4 := Redundant(p, "D", []api.Tree{wild, of(t, text), of(t, "Wrong")})
		_, e5 := Compile(p, "D", []api.Tree{wild, of(t, text), of(t, "Wrong")})
		if got := []api.Errno{e1, e2, e3, e4, e5}; !slices.Equal(got, slices.Repeat([]api.Errno{want}, 5)) {
			t.Errorf("%s: %v, want %d", text, got, want)
		}
	}
	for n, want := range map[int]api.Errno{32: api.OK, maxList + 1: api.ErrMany} {
		l := slices.Repeat([]api.Tree{wild}, n)
		if n > 32 {
			l[0] = wrong
		}
		_, e1 := Useful(p, "D", l, wild)
		_, _, e2 := Missing(p, "D", l)
		_, e3 := Redundant(p, "D", l)
		_, e4 := Compile(p, "D", l)
		if got := []api.Errno{e1, e2, e3, e4}; !slices.Equal(got, slices.Repeat([]api.Errno{want}, 4)) {
			t.Errorf("%d patterns: %v, want %d", n, got, want)
		}
	}
	_, e := Useful(p, "D", slices.Repeat([]api.Tree{wild}, 33), wrong)
	if e != api.ErrMany {
		t.Errorf("Useful of too many patterns and a wrong one: %d", e)
	}
}

// TestMatch is for P10.1: the variables with their values, and what does not match.
func TestMatch(t *testing.T) {
	for _, c := range []struct {
		pattern, value, want string
		is                   bool
	}{
		{"Cons(x, Cons(y, _))", "Cons(1, Nil())", "", false},
		{"Cons(x, Cons(y, _))", "Cons(1, Cons(2, Nil()))", "x=1 y=2", true},
		{"Cons(x, Cons(y, z))", "Cons(1, Cons(2, Nil()))", "x=1 y=2 z=Nil()", true},
		{"Cons(x, Nil)", "Cons(1, Cons(2, Nil()))", "", false},
		{"_", "{1, 2}", "", true},
		{"x", "map[1 := #3]", "x=map[1 := #3]", true},
		{"0", "0", "", true},
		{"-0", "0", "", true},
		{"0", "1", "", false},
		{"-12", "-12", "", true},
		{"12", "-12", "", false},
		{"3", "3bv8", "", true},
		{"3", "4bv8", "", false},
		{"3", "3/1", "", false},
		{"3", "#3", "", false},
		{"1", "true", "", false},
		{"0", "false", "", false},
		{"true", "true", "", true},
		{"false", "true", "", false},
		{"false", "false", "", true},
		{"true", "1", "", false},
		{"true", "[true]", "", false},
		{"Nil", "Nil()", "", true},
		{"Nil", "Nil(1)", "", false},
		{"Nil(x)", "Nil()", "", false},
		{"Nil", "M::Nil()", "", false},
		{"M::Nil", "M::Nil()", "", true},
		{"Nil", "[]", "", false},
		{"C(x, 0, y)", "C(1, 0, 2)", "x=1 y=2", true},
		{"C(x, 0, y)", "C(1, 1, 2)", "", false},
		{"C(x, y)", "C(1, 0, 2)", "", false},
	} {
		l, is, e := Match(of(t, c.pattern), valueOf(t, c.value))
		var got []string
		for _, b := range l {
			got = append(got, b.Name+"="+textOf(b.Value))
		}
		if strings.Join(got, " ") != c.want || is != c.is || e != api.OK {
			t.Errorf("Match(%s, %s): %q, %v, %d, want %q, %v", c.pattern, c.value, got, is, e, c.want, c.is)
		}
	}
	bad := api.Value{Kind: api.VSet, Items: []api.Value{{Kind: api.VInt, Num: "1"}, {Kind: api.VInt, Num: "0"}}}
	for text, want := range map[string]api.Errno{"C(x, x)": api.ErrTwice, "C(x, D(y, x))": api.ErrTwice, "C(x, y)": api.ErrOrder, "_": api.ErrOrder} {
		if l, is, e := Match(of(t, text), bad); len(l) > 0 || is || e != want {
			t.Errorf("Match of %s: %v, %v, %d, want %d", text, l, is, e, want)
		}
	}
}

// TestMatchCopies is for P10.1: what Match and Path return shares no memory with the value.
func TestMatchCopies(t *testing.T) {
	v := valueOf(t, "C([1, 2])")
	l, _, _ := Match(of(t, "C(x)"), v)
	part, _ := Path(v, []int{0})
	l[0].Value.Items[0].Num, part.Items[1].Num = "7", "8"
	if textOf(v) != "C([1, 2])" || textOf(l[0].Value) != "[7, 2]" || textOf(part) != "[1, 8]" {
		t.Errorf("%s, %s, %s", textOf(v), textOf(l[0].Value), textOf(part))
	}
}

// TestFirst is for P10.1: the first pattern that matches, and the errors in their order.
func TestFirst(t *testing.T) {
	for _, c := range []struct {
		patterns []string
		value    string
		want     int
	}{
		{nil, "1", -1},
		{[]string{"Nil", "Cons(0, _)", "Cons(_, t)"}, "Cons(0, Nil())", 1},
		{[]string{"Nil", "Cons(0, _)", "Cons(_, t)"}, "Cons(1, Nil())", 2},
		{[]string{"Nil", "Cons(0, _)", "Cons(_, t)"}, "Nil()", 0},
		{[]string{"Nil", "Cons(0, _)"}, "Cons(2, Nil())", -1},
		{[]string{"1", "x", "_"}, "2", 1},
	} {
		if got, e := First(listOf(t, c.patterns...), valueOf(t, c.value)); got != c.want || e != api.OK {
			t.Errorf("First(%q, %s): %d, %d, want %d", c.patterns, c.value, got, e, c.want)
		}
	}
	twice, bad, good := of(t, "C(x, x)"), api.Value{Kind: api.VInt, Num: "01"}, valueOf(t, "1")
	if got, e := First(slices.Repeat([]api.Tree{of(t, "0")}, 200), good); got != -1 || e != api.OK {
		t.Errorf("First of 200 patterns: %d, %d", got, e)
	}
	for _, c := range []struct {
		list []api.Tree
		v    api.Value
		want api.Errno
	}{
		{slices.Repeat([]api.Tree{twice}, 201), bad, api.ErrMany},
		{[]api.Tree{of(t, "_"), twice}, good, api.ErrTwice},
		{[]api.Tree{of(t, "_"), twice, {{Op: api.EInt, Text: "1"}}}, bad, api.ErrTwice},
		{[]api.Tree{of(t, "_"), {{Op: api.EInt, Text: "1"}}, twice}, bad, api.ErrKind},
		{[]api.Tree{of(t, "_")}, bad, api.ErrForm},
		{nil, bad, api.ErrForm},
	} {
		if got, e := First(c.list, c.v); got != 0 || e != c.want {
			t.Errorf("First of %d patterns: %d, %d, want %d", len(c.list), got, e, c.want)
		}
	}
}

// TestPath is for P10.1: the parts of values.
func TestPath(t *testing.T) {
	v := valueOf(t, "Cons(7, Cons({1}, Nil()))")
	for _, c := range []struct {
		path []int
		want string
		e    api.Errno
	}{
		{nil, "Cons(7, Cons({1}, Nil()))", api.OK},
		{[]int{0}, "7", api.OK},
		{[]int{1}, "Cons({1}, Nil())", api.OK},
		{[]int{1, 0}, "{1}", api.OK},
		{[]int{1, 1}, "Nil()", api.OK},
		{[]int{2}, "", api.ErrRange},
		{[]int{-1}, "", api.ErrRange},
		{[]int{0, 0}, "", api.ErrRange},
		{[]int{1, 0, 0}, "", api.ErrRange},
		{[]int{1, 1, 0}, "", api.ErrRange},
		{[]int{5, 0}, "", api.ErrRange},
	} {
		got, e := Path(v, c.path)
		if e != c.e || c.want != "" && textOf(got) != c.want || c.want == "" && (got.Kind != 0 || got.Num != "") {
			t.Errorf("Path(%v): %s, %d, want %s, %d", c.path, textOf(got), e, c.want, c.e)
		}
	}
	if _, e := Path(api.Value{Kind: api.VCons}, []int{-1}); e != api.ErrForm {
		t.Errorf("Path of no value: %d", e)
	}
}

// matchesPlainly is what the document says of a value that matches a pattern, with all of its variables.
func matchesPlainly(p api.Tree, node int, v api.Value) bool {
	switch n := p[node]; n.Op {
	case api.PCons:
		if v.Kind != api.VCons || v.Text != n.Text || len(v.Items) != len(n.Kids) {
			return false
		}
		for i, kid := range n.Kids {
			if !matchesPlainly(p, kid, v.Items[i]) {
				return false
			}
		}
	case api.PLit:
		return textOf(v) == literalText(p, n.Kids[0], v)
	}
	return true
}

// literalText returns what the text of a value of the same kind would be for a literal.
func literalText(p api.Tree, node int, v api.Value) string {
	s := p[node].Text
	if p[node].Op == api.ENeg {
		s = "-" + p[node-1].Text
	}
	if v.Kind == api.VBits {
		s += "bv" + v.Text
	}
	return s
}

// TestMatchRandomly is for P10.1: Match and First compared with the definition, for random patterns and all small values.
func TestMatchRandomly(t *testing.T) {
	m := newMaker(t, 101)
	matching, not := 0, 0
	for _, typ := range []string{"D", "List<bool>", "Pair<Color,D>", "Bits", "bool", "int", "bv2", "Pair<bv1,Bits>"} {
		values := m.values(typ, 3)
		for range 60 {
			l := m.patterns(t, typ, 3, 3)
			for range 40 {
				v := values[m.Intn(len(values))]
				first := -1
				for i := len(l) - 1; i >= 0; i-- {
					want := matchesPlainly(l[i], len(l[i])-1, v)
					bindings, is, e := Match(l[i], v)
					if is != want || e != api.OK || !is && len(bindings) > 0 {
						t.Fatalf("Match(%s, %s): %v, %d", show(l[i]), textOf(v), is, e)
					}
					if is {
						first = i
						if matching++; matching%10 == 0 {
							checkBindings(t, m.tree, typ, l[i], bindings)
						}
					} else {
						not++
					}
				}
				if got, e := First(l, v); got != first || e != api.OK {
					t.Fatalf("First(%s, %s): %d, %d, want %d", showAll(l), textOf(v), got, e, first)
				}
			}
		}
	}
	if matching < 1000 || not < 1000 {
		t.Errorf("%d matches, %d others", matching, not)
	}
}

// checkBindings checks that variables have values of their types.
func checkBindings(t *testing.T, p api.Tree, typ string, pattern api.Tree, l []Binding) {
	t.Helper()
	vars, _, e := Check(p, typ, pattern)
	if e != api.OK || len(vars) != len(l) {
		t.Fatalf("Check(%s, %s): %v, %d, but Match has %v", typ, show(pattern), vars, e, l)
	}
	for i, v := range vars {
		if is, e := value.HasType(p, l[i].Value, v.Sort); !is || e != api.OK || v.Name != l[i].Name {
			t.Fatalf("%s in %s: %s of %s", v.Name, show(pattern), textOf(l[i].Value), v.Sort)
		}
	}
}
