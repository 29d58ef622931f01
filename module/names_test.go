package module

import (
	"slices"
	"strings"
	"testing"

	"entail/api"
)

// TestExports is for P7.1: what modules export, in the order of the declarations.
func TestExports(t *testing.T) {
	for s, want := range map[string][]Export{
		"module A { }": nil,
		"module A { export; const c: int := 1; datatype T = U }": nil,
		"module A { const c: int := 1; datatype T = U | V class C { var f: int; } function f<S>(x: int): int method m() }": {
			{"c", true}, {"T", true}, {"U", true}, {"V", true}, {"C", true}, {"f", true}, {"m", true},
		},
		"module A { export m, f, +c, T; const c: int := 1; datatype T = U function f(): int method m() }": {{"c", true}, {"T", false}, {"f", false}, {"m", false}},
		"module A { export +T, S, +R; type S = x: int | true witness 0 datatype T = U | V datatype Q = W datatype R = X }": {
			{"S", false}, {"T", true}, {"U", true}, {"V", true}, {"R", true}, {"X", true},
		},
		"module A { export +Q, R; datatype Q = W datatype R = X }": {{"Q", true}, {"W", true}, {"R", false}},
	} {
		if got, e := Exports(programOf(t, s), "A"); !equal(got, want) || e != api.OK {
			t.Errorf("Exports of %q: %v, %d, want %v", s, got, e, want)
		}
	}
	if got, e := Exports(programOf(t, "const c: int := 1;"), ""); !equal(got, []Export{{"c", true}}) || e != api.OK {
		t.Errorf("Exports of the module without a name: %v, %d", got, e)
	}
}

// three are modules of which the last one imports the others.
const three = `
module A { export f, +g, c; function f(): int { 1 } function g(): int { 1 } const c: int := 1; const d: int := 2; }
module B { datatype T<X> = U | V(v: X) method m() class C { } type S = x: int | true witness 0 }
module C { import B; import A; function f(): int { A::g() } datatype T = U }
module D refines A { }`

// TestVisible is for P7.1: a module's own declarations, then those that it imports.
func TestVisible(t *testing.T) {
	for module, want := range map[string][]Entry{
		"A": {{"f", "A::f", api.DFunction, true}, {"g", "A::g", api.DFunction, true}, {"c", "A::c", api.DConst, true}, {"d", "A::d", api.DConst, true}},
		"B": {{"T", "B::T", api.DDatatype, true}, {"U", "B::U", api.DCons, true}, {"V", "B::V", api.DCons, true}, {"m", "B::m", api.DMethod, true}, {"C", "B::C", api.DClass, true}, {"S", "B::S", api.DSubset, true}},
		"C": {
			{"f", "C::f", api.DFunction, true}, {"T", "C::T", api.DDatatype, true}, {"U", "C::U", api.DCons, true},
			{"B::T", "B::T", api.DDatatype, true}, {"B::U", "B::U", api.DCons, true}, {"B::V", "B::V", api.DCons, true}, {"B::m", "B::m", api.DMethod, true}, {"B::C", "B::C", api.DClass, true}, {"B::S", "B::S", api.DSubset, true},
			{"A::f", "A::f", api.DFunction, false}, {"A::g", "A::g", api.DFunction, true}, {"A::c", "A::c", api.DConst, false},
		},
		"D": nil,
	} {
		if got, e := Visible(programOf(t, three), module); !equal(got, want) || e != api.OK {
			t.Errorf("Visible in %s: %v, %d, want %v", module, got, e, want)
		}
	}
	if got, e := Visible(programOf(t, "const c: int := 1;"), ""); !equal(got, []Entry{{"c", "c", api.DConst, true}}) || e != api.OK {
		t.Errorf("Visible in the module without a name: %v, %d", got, e)
	}
}

// TestResolve is for P7.1: what a name denotes, and its errors in their order.
func TestResolve(t *testing.T) {
	for _, c := range []struct {
		module, name string
		entry        Entry
		want         api.Errno
	}{
		{"A", "f", Entry{"f", "A::f", api.DFunction, true}, api.OK},
		{"A", "A::d", Entry{"A::d", "A::d", api.DConst, true}, api.OK},
		{"C", "f", Entry{"f", "C::f", api.DFunction, true}, api.OK},
		{"C", "C::U", Entry{"C::U", "C::U", api.DCons, true}, api.OK},
		{"C", "A::f", Entry{"A::f", "A::f", api.DFunction, false}, api.OK},
		{"C", "A::g", Entry{"A::g", "A::g", api.DFunction, true}, api.OK},
		{"C", "B::V", Entry{"B::V", "B::V", api.DCons, true}, api.OK},
		{"C", "A::d", Entry{}, api.ErrExport},
		{"C", "A::x", Entry{}, api.ErrUnknown},
		{"C", "g", Entry{}, api.ErrUnknown},
		{"C", "v", Entry{}, api.ErrUnknown},
		{"C", "B::v", Entry{}, api.ErrUnknown},
		{"C", "B::X", Entry{}, api.ErrUnknown},
		{"C", "D::f", Entry{}, api.ErrUnknown},
		{"A", "B::T", Entry{}, api.ErrUnknown},
		{"A", "C::f", Entry{}, api.ErrUnknown},
		{"D", "A::f", Entry{}, api.ErrUnknown},
		{"D", "f", Entry{}, api.ErrUnknown},
		{"C", "b::m", Entry{}, api.ErrUnknown},
		{"C", "", Entry{}, api.ErrName},
		{"C", "1", Entry{}, api.ErrName},
		{"C", "if", Entry{}, api.ErrName},
		{"C", "A::", Entry{}, api.ErrName},
		{"C", "::f", Entry{}, api.ErrName},
		{"C", "A::if", Entry{}, api.ErrName},
		{"C", "A::B::f", Entry{}, api.ErrName},
		{"C", "A:f", Entry{}, api.ErrName},
		{"C", "+f", Entry{}, api.ErrName},
		{"X", "1", Entry{}, api.ErrUnknown},
	} {
		if got, e := Resolve(programOf(t, three), c.module, c.name); got != c.entry || e != c.want {
			t.Errorf("Resolve of %q in %s: %v, %d, want %v, %d", c.name, c.module, got, e, c.entry, c.want)
		}
	}
	// A declaration with a qualified name is denoted by no name.
	p := programOf(t, "module A { const A::c: int := 1; }")
	for _, name := range []string{"c", "A::c"} {
		if got, e := Resolve(p, "A", name); got != (Entry{}) || e != api.ErrUnknown {
			t.Errorf("Resolve of %q: %v, %d", name, got, e)
		}
	}
	p = programOf(t, "const A::c: int := 1; const c: int := 2;")
	if got, e := Resolve(p, "", "c"); got != (Entry{"c", "c", api.DConst, true}) || e != api.OK {
		t.Errorf("Resolve in the module without a name: %v, %d", got, e)
	}
}

// TestSplit is for P7.2: names that are taken apart and put together.
func TestSplit(t *testing.T) {
	long := strings.Repeat("a", api.MaxName)
	for s, want := range map[string][2]string{"g": {"", "g"}, "B::g": {"B", "g"}, "b::g": {"b", "g"}, "B::G_1": {"B", "G_1"}, long: {"", long}, long + "::" + long: {long, long}} {
		module, name, e := Split(s)
		if [2]string{module, name} != want || e != api.OK {
			t.Errorf("Split(%q): %q, %q, %d", s, module, name, e)
		}
		if back, e := Join(module, name); back != s || e != api.OK {
			t.Errorf("Join(%q, %q): %q, %d", module, name, back, e)
		}
	}
	for _, s := range []string{"", " ", "1", "a b", "_", "_a", "if", "bv8", "a::", "::a", "a:b", "a:::b", "a::b::c", "if::a", "A::if", "A::1", "a+b", long + "a", "A::" + long + "a", long + "a::b", "é"} {
		if module, name, e := Split(s); module != "" || name != "" || e != api.ErrName {
			t.Errorf("Split(%q): %q, %q, %d", s, module, name, e)
		}
		if got, e := Join("A", s); got != "" || e != api.ErrName {
			t.Errorf("Join(A, %q): %q, %d", s, got, e)
		}
		if got, e := Join(s, "a"); s != "" && (got != "" || e != api.ErrName) {
			t.Errorf("Join(%q, a): %q, %d", s, got, e)
		}
	}
	for _, c := range [][3]string{{"A", "b", "A::b"}, {"", "b", "b"}, {"a", "B", "a::B"}} {
		if got, e := Join(c[0], c[1]); got != c[2] || e != api.OK {
			t.Errorf("Join(%q, %q): %q, %d", c[0], c[1], got, e)
		}
	}
	for _, c := range [][2]string{{"A", "B::c"}, {"A::B", "c"}, {"", ""}, {"A", ""}} {
		if got, e := Join(c[0], c[1]); got != "" || e != api.ErrName {
			t.Errorf("Join(%q, %q): %q, %d", c[0], c[1], got, e)
		}
	}
}

// TestNames is for P7.2: the names of a flat program, in their order.
func TestNames(t *testing.T) {
	p := programOf(t, "datatype B::D = B::Nil | B::One(v: int) function B::h(x: int): int { x } const A::c: int := 1; class C { } type S = x: int | true witness 0 method m() datatype B::D = E")
	if got, e := Names(p); !equal(got, []string{"B::D", "B::h", "A::c", "C", "S", "m", "B::D"}) || e != api.OK {
		t.Errorf("Names: %q, %d", got, e)
	}
	if got, e := Names(programOf(t, "")); len(got) > 0 || e != api.OK {
		t.Errorf("Names of nothing: %q, %d", got, e)
	}
	if got, e := Names(programOf(t, "import A; export x; const c: int := 1;")); !equal(got, []string{"c"}) || e != api.OK {
		t.Errorf("Names of a module with an import: %q, %d", got, e)
	}
	for i, c := range []struct {
		tree api.Tree
		want api.Errno
	}{
		{nil, api.ErrEmpty},
		{api.Tree{{Op: api.EVar, Text: "X"}}, api.ErrName},
		{api.Tree{{Op: api.EVar, Text: "x"}}, api.ErrKind},
		{api.Tree{{Op: api.MModule}}, api.ErrKind},
		{programOf(t, "module A { }"), api.ErrKind},
		{programOf(t, example), api.ErrKind},
		{programTree(t, moduleTree(t, ""), moduleTree(t, "")), api.ErrKind},
	} {
		if got, e := Names(c.tree); len(got) > 0 || e != c.want {
			t.Errorf("%d: Names: %q, %d, want %d", i, got, e, c.want)
		}
	}
}

// TestClosure is for P7.2: a module with all that it needs, and the modules that need it.
func TestClosure(t *testing.T) {
	const modules = "module D { import B; } module A { } module B refines A { const c: int := 1; } module C { import A; } module E { import D; import C; }"
	for _, c := range []struct {
		module           string
		closure, clients []string
	}{
		{"A", []string{"A"}, []string{"D", "B", "C", "E"}},
		{"B", []string{"A", "B"}, []string{"D", "E"}},
		{"C", []string{"A", "C"}, []string{"E"}},
		{"D", []string{"D", "A", "B"}, []string{"E"}},
		{"E", []string{"D", "A", "B", "C", "E"}, nil},
	} {
		p := programOf(t, modules)
		got, e := Closure(p, c.module)
		if e != api.OK {
			t.Fatalf("Closure: %d", e)
		}
		var names []string
		for _, kid := range got[len(got)-1].Kids {
			names = append(names, got[kid].Text)
		}
		if !equal(names, c.closure) {
			t.Errorf("Closure of %s: %q, want %q", c.module, names, c.closure)
		}
		for _, n := range got {
			if !slices.ContainsFunc(p, func(m api.Node) bool { return m.Op == n.Op && m.Text == n.Text && m.At == n.At }) {
				t.Errorf("Closure of %s: the node %v is none of the program", c.module, n)
			}
		}
		if again, e := Closure(got, c.module); e != api.OK || text(t, again) != text(t, got) {
			t.Errorf("Closure of the closure of %s: %d", c.module, e)
		}
		if clients, e := Clients(p, c.module); !equal(clients, c.clients) || e != api.OK {
			t.Errorf("Clients of %s: %q, %d, want %q", c.module, clients, e, c.clients)
		}
	}
	p := programOf(t, "module A { } module B { import A; const c: int := 1; } module C { import B; }")
	if got, e := Closure(p, "B"); e != api.OK || text(t, got) != "module A {\n}\nmodule B {\n  import A;\n  const c: int := 1;\n}" {
		t.Errorf("Closure of B: %v, %d", got, e)
	}
}
