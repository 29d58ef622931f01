package module

import (
	"math/rand"
	"slices"
	"strconv"
	"strings"
	"testing"

	"entail/api"
	"entail/tree"
)

// TestFlat is for P7.2: what becomes of each node.
func TestFlat(t *testing.T) {
	for s, want := range map[string]string{
		example: "hidden function B::g(x: int): int { x } datatype B::D = B::Nil | B::One(v: int) function B::h(x: int): int { x } function A::f(x: int): int { B::g(x) } const A::c: int := 1;",
		"":      "",
		"const c: int := 1; function f(): int { c }":           "const c: int := 1; function f(): int { c }",
		"export f; const c: int := 1; function f(): int { c }": "const c: int := 1; hidden function f(): int { c }",
		"module A { } module B { }":                            "",
		// marks
		"module A { export f, +g; ghost opaque function f<T>(x: T): int ghost function g(): int function h(): int hidden function i(): int }": "ghost opaque hidden function A::f<T>(x: T): int ghost function A::g(): int function A::h(): int hidden function A::i(): int",
		"module A { export i, m, c; hidden function i(): int method m() const c: int := 1; }":                                                 "hidden hidden function A::i(): int method A::m() const A::c: int := 1;",
		// types
		"module A { datatype T = X(v: T) function f<T>(x: T): int { 1 } }": "datatype A::T = A::X(v: A::T) function A::f<T>(x: T): int { 1 }",
		"module A { datatype L<T> = X(v: T, w: A::L<T>, x: seq<S>) type S = x: int | true witness 0 class C { var l: L<L<C>>; } method m<S>(c: C, s: S) { var l: map<S, A::S>; c := new A::C(l); } }": "datatype A::L<T> = A::X(v: T, w: A::L<T>, x: seq<A::S>) type A::S = x: int | true witness 0 class A::C { var l: A::L<A::L<A::C>>; } method A::m<S>(c: A::C, s: S) { var l: map<S, A::S>; c := new A::C(l); }",
		"module A { function f<T>(x: T<int>): int }": "function A::f<T>(x: T<int>): int",
		// variables and constants
		"module A { const c: int := 1; const d: int := c + A::c; function f(c: int): int { c + d + A::c } }":                     "const A::c: int := 1; const A::d: int := A::c + A::c; function A::f(c: int): int { c + A::d + A::c }",
		"module A { const c: int := 1; function f(x: int): bool { (var c := c; c < c) && c == 1 } }":                             "const A::c: int := 1; function A::f(x: int): bool { (var c := A::c; c < c) && A::c == 1 }",
		"module A { const c: int := 1; method m() { var x: int := c; { var c: int := c; x := c; } x := c; } }":                   "const A::c: int := 1; method A::m() { var x: int := A::c; { var c: int := A::c; x := c; } x := A::c; }",
		"module A { const c: int := 1; function f(): bool { forall c: int {c} :: c < A::c } type S = c: int | c < 1 witness c }": "const A::c: int := 1; function A::f(): bool { forall c: int {c} :: c < A::c } type A::S = c: int | c < 1 witness A::c",
		// functions, constructors and methods
		"module A { datatype T = X(y: int) | Y function f(t: T): int { if t.X? && t == X(f(Y)) then t.y else match t { case X(y) => y case Y => f(A::Y) } } }":                       "datatype A::T = A::X(y: int) | A::Y function A::f(t: A::T): int { if t.A::X? && t == A::X(A::f(A::Y)) then t.y else match t { case A::X(y) => y case A::Y => A::f(A::Y) } }",
		"module A { import B; method m(x: int) { call m(x); call B::m(x); reveal f; reveal B::f; reveal A::f; } function f(): int } module B { method m(x: int) function f(): int }": "method B::m(x: int) function B::f(): int method A::m(x: int) { call A::m(x); call B::m(x); reveal A::f; reveal B::f; reveal A::f; } function A::f(): int",
		// names of one sort do not hide those of another one
		"module A { function f(f: int): int { f(f) } function g(): int { g() } }":                                       "function A::f(f: int): int { A::f(f) } function A::g(): int { A::g() }",
		"module A { import B; import C; } module B { import C; const b: int := C::c; } module C { const c: int := 1; }": "const C::c: int := 1; const B::b: int := C::c;",
	} {
		p := programOf(t, s)
		got, node, e := Flat(p)
		if e != api.OK || node != 0 {
			t.Errorf("Flat of %q: %d, %d", s, node, e)
			continue
		}
		if due := programOf(t, want); !tree.Same(got, due) {
			t.Errorf("Flat of %q:\n%s\nwant\n%s", s, text(t, got), text(t, due))
		}
	}
}

// TestTargets is for P7.2: a constant in the place of a target (which a text cannot name once it is qualified), and the names of statements, which stay.
func TestTargets(t *testing.T) {
	p, _, e := Flat(programOf(t, "module A { const c: int := 1; method m() { c := 2; c, c := call m(); c :| true; c := new array<int>(1, 1); } }"))
	var texts []string
	for _, n := range p {
		switch n.Op {
		case api.EVar, api.SCall, api.SChoose, api.SNewArray:
			texts = append(texts, n.Text)
		}
	}
	if want := []string{"A::c", "A::c", "A::c", "A::m", "c", "c"}; !equal(texts, want) || e != api.OK {
		t.Errorf("Flat: %q, %d, want %q", texts, e, want)
	}
}

// TestOffsets is for P7.2: the nodes keep their offsets; a new mark has that of its function.
func TestOffsets(t *testing.T) {
	const s = "module A { export f; ghost function f(x: int): int { x } const c: int := f(1); }"
	got, _, e := Flat(programOf(t, s))
	if e != api.OK {
		t.Fatalf("Flat: %d", e)
	}
	function := strings.Index(s, "ghost")
	for _, n := range got {
		if n.Op == api.MModule || n.Op == api.MProgram {
			if n.At != 0 {
				t.Errorf("the offset of %v", n)
			}
			continue
		}
		word := strings.TrimPrefix(n.Text, "A::")
		switch n.Op {
		case api.DMark:
			word = "ghost"
		case api.DFunction, api.DConst:
			continue
		case api.TInt:
			word = "int"
		case api.DResult:
			word = "int"
		}
		if !strings.HasPrefix(s[n.At:], word) || n.Op == api.DMark && n.At != function {
			t.Errorf("the offset %d of %v", n.At, n)
		}
	}
	other := programOf(t, "export c; const c: int := 1;")
	for i := range other {
		other[i].At = 7
	}
	got, _, _ = Flat(other)
	for i, n := range got {
		if want := map[bool]int{true: 7, false: 0}[i < len(got)-2]; n.At != want {
			t.Errorf("the offset of %v is not %d", n, want)
		}
	}
}

// TestFlatErrors is for P7.2: the first error, with its node.
func TestFlatErrors(t *testing.T) {
	for _, c := range []struct {
		text string
		at   place
		want api.Errno
	}{
		{"module A { const c: int := d; } module B refines A { } module C refines A { }", place{api.MRefines, "A", 0}, api.ErrRefine},
		{"module A { const c: int := d; }", place{api.EVar, "d", 0}, api.ErrUnknown},
		{"module A { const c: int := B::d; } module B { const d: int := 1; }", place{api.EVar, "B::d", 0}, api.ErrUnknown},
		{"module A { import B; const c: int := B::d; } module B { export; const d: int := 1; }", place{api.EVar, "B::d", 0}, api.ErrExport},
		{"module A { import B; const c: int := B::e; } module B { export; const d: int := 1; }", place{api.EVar, "B::e", 0}, api.ErrUnknown},
		{"module A { import B; const c: B::T := B::X; } module B { export T; datatype T = X }", place{api.ECons, "B::X", 0}, api.ErrExport},
		{"module A { const c: T := 1; }", place{api.TName, "T", 0}, api.ErrUnknown},
		{"module A { const c: U := 1; datatype T = U }", place{api.TName, "U", 0}, api.ErrKind},
		{"module A { const c: int := T; datatype T = U }", place{api.ECons, "T", 0}, api.ErrKind},
		{"module A { const c: int := f; function f(): int }", place{api.EVar, "f", 0}, api.ErrKind},
		{"module A { const c: int := c(); }", place{api.ECall, "c", 0}, api.ErrKind},
		{"module A { const c: int := m(); method m() }", place{api.ECall, "m", 0}, api.ErrKind},
		{"module A { const c: bool := c.T?; datatype T = U }", place{api.EIs, "T", 0}, api.ErrKind},
		{"module A { const c: int := match c { case T => 1 }; datatype T = U }", place{api.PCons, "T", 0}, api.ErrKind},
		{"module A { method m() { call f(); } function f(): int }", place{api.SCall, "f", 0}, api.ErrKind},
		{"module A { method m() { reveal m; } }", place{api.SReveal, "m", 0}, api.ErrKind},
		{"module A { method m() { reveal f; } }", place{api.SReveal, "f", 0}, api.ErrUnknown},
		{"module A { method m() { call f(); } }", place{api.SCall, "f", 0}, api.ErrUnknown},
		{"module A { function f<T>(x: int): T { x } function g(x: T): int }", place{api.TName, "T", 1}, api.ErrUnknown},
		{"module A { method m() { x := 1; } }", place{api.EVar, "x", 0}, api.ErrUnknown},
		{"module A { method m() { x := call n(); } method n() }", place{api.EVar, "x", 0}, api.ErrUnknown},
		{"module A { method m() { { var x: int; } x := 1; } }", place{api.EVar, "x", 0}, api.ErrUnknown},
		{"module A { type S = x: int | true witness x }", place{api.EVar, "x", 0}, api.ErrUnknown},
		{"module A { method m() returns (x: int) requires x < 1 }", place{api.EVar, "x", 0}, api.ErrUnknown},
		// variables that come again
		{"module A { function f(x: int): int { var x := 1; x } }", place{api.ELet, "x", 0}, api.ErrTwice},
		{"module A { function f(x: int, y: int, ghost x: int): int }", place{api.DGhostParam, "x", 0}, api.ErrTwice},
		{"module A { method m(x: int) returns (y: int, x: int) }", place{api.DOut, "x", 0}, api.ErrTwice},
		{"module A { method m() returns (y: int, y: int) }", place{api.DOut, "y", 1}, api.ErrTwice},
		{"module A { function f(): bool { forall x: int, x: int :: true } }", place{api.QVar, "x", 1}, api.ErrTwice},
		{"module A { function f(): bool { forall x: int :: exists x: int :: true } }", place{api.QVar, "x", 1}, api.ErrTwice},
		{"module A { function f(x: int): bool { x in (set x: int | true :: x) } }", place{api.QVar, "x", 0}, api.ErrTwice},
		{"module A { datatype T = U(a: int, b: int) function f(t: T): int { match t { case U(x, x) => 1 } } }", place{api.PVar, "x", 1}, api.ErrTwice},
		{"module A { datatype T = U(a: int, b: T) function f(t: T): int { match t { case U(_, U(t, _)) => 1 } } }", place{api.PVar, "t", 0}, api.ErrTwice},
		{"module A { method m() { var x: int; var x: int; } }", place{api.SVar, "x", 1}, api.ErrTwice},
		{"module A { method m() { var x: int; { ghost var x: int; } } }", place{api.SGhostVar, "x", 0}, api.ErrTwice},
		{"module A { method m(x: int) { match x { case x => { } } } }", place{api.PVar, "x", 0}, api.ErrTwice},
		{"module A { method m(x: int) { forall x: int | true ensures true { } } }", place{api.QVar, "x", 0}, api.ErrTwice},
		{"module A { method m() returns (x: int) { var x: int; } }", place{api.SVar, "x", 0}, api.ErrTwice},
		{"module A { type S = x: int | (var x := 1; x < 2) witness 0 }", place{api.ELet, "x", 0}, api.ErrTwice},
		{"module A { function f<T, U, T>(x: T): int }", place{api.DTypeParam, "T", 1}, api.ErrTwice},
		{"module A { datatype D<T, T> = C }", place{api.DTypeParam, "T", 1}, api.ErrTwice},
		{"module A { method m<T, T>() }", place{api.DTypeParam, "T", 1}, api.ErrTwice},
		// the first node of the first module
		{"module B { import A; const c: int := e; } module A { const c: int := d; }", place{api.EVar, "e", 0}, api.ErrUnknown},
		{"module A { method m(x: T) { var x: int := y; } }", place{api.TName, "T", 0}, api.ErrUnknown},
		{"module A { method m(x: int) { var x: int := y; } }", place{api.EVar, "y", 0}, api.ErrUnknown},
		// the flat program is no tree
		{"module A { const A::c: int := 1; }", place{api.TInt, "", 0}, api.ErrName},
		{"module A { datatype T = A::U }", place{api.DCons, "A::U", 0}, api.ErrName},
	} {
		p := programOf(t, c.text)
		at := c.at.in(t, p)
		if c.want == api.ErrName {
			at = 0
		}
		if got, node, e := Flat(p); len(got) > 0 || node != at || e != c.want {
			t.Errorf("Flat of %q: %d, %d, want %d, %d", c.text, node, e, at, c.want)
		}
	}
}

// TestNoTwice is for P7.2: variables with one name beside each other, where none is in the scope of another one.
func TestNoTwice(t *testing.T) {
	for _, s := range []string{
		"module A { function f(x: int): int { x } function g(x: int): int { x } }",
		"module A { function f(): bool { (forall x: int :: true) && (exists x: int :: true) && (var x := 1; true) } }",
		"module A { function f(): int { var x := (var x := 1; x); x } }",
		"module A { method m() { { var x: int; } { var x: int; } var x: int; } }",
		"module A { datatype T = U(x: int) | V(x: int) function f(t: T): int { match t { case U(x) => x case V(x) => x } } }",
		"module A { datatype D<T> = C datatype E<T> = F function f<T>(x: T): int method m<T>() }",
		"module A { function f(x: int): int requires forall y: int :: true ensures forall y: int :: true }",
		"module A { class C { var x: int; } function f(x: int): int { x } const g: int := 1; function h(g: int): int { g } }",
		"module A { type S = x: int | true witness (var x := 1; x) }",
	} {
		if _, node, e := Flat(programOf(t, s)); node != 0 || e != api.OK {
			t.Errorf("Flat of %q: %d, %d", s, node, e)
		}
	}
}

// TestTooManyNodes is for P7.2: marks that make the flat program too large.
func TestTooManyNodes(t *testing.T) {
	const functions = 798 // five nodes each: the name of the export, the function, its result, its type and a mark
	for _, more := range []int{0, 1, 2, 3, 4} {
		var names, b strings.Builder
		for i := range functions {
			names.WriteString(", f" + strconv.Itoa(i))
			b.WriteString("function f" + strconv.Itoa(i) + "(): int ")
		}
		for i := range more {
			b.WriteString("class C" + strconv.Itoa(i) + " { } ")
		}
		p := programOf(t, "module A { export "+names.String()[2:]+"; "+b.String()+"}")
		size := 4*functions + 2 + more
		want := api.OK
		if size > api.MaxNodes {
			want = api.ErrMany
		}
		got, node, e := Flat(p)
		if node != 0 || e != want || e == api.OK && len(got) != size {
			t.Errorf("%d functions and %d classes: %d nodes, %d, %d, want %d and %d", functions, more, len(got), node, e, size, want)
		}
	}
}

// randomModules returns the text of a program whose names all denote something; module i may import those before it, under names that a function makes.
func randomModules(r *rand.Rand, count int, name func(int) string) string {
	var b strings.Builder
	var declared []string // what other modules may use
	for i := range count {
		b.WriteString("module " + name(i) + " {\n")
		for j := range i {
			b.WriteString("import " + name(j) + ";\n")
		}
		body := []string{"1"}
		for _, d := range declared {
			body = append(body, d)
		}
		exported := []string{}
		var own strings.Builder
		for k := range 3 {
			word := string(rune('a'+k)) + strconv.Itoa(r.Intn(2))
			use := func() string { return body[r.Intn(len(body))] }
			own.WriteString("function " + word + "x(y: int): int { " + use() + " + y }\n")
			own.WriteString("const " + word + "c: int := " + use() + ";\n")
			body = append(body, word+"x(2)", word+"c", name(i)+"::"+word+"x(3)")
			if r.Intn(2) == 0 {
				exported = append(exported, []string{"", "+"}[r.Intn(2)]+word+"x")
				declared = append(declared, name(i)+"::"+word+"x(4)")
			}
		}
		b.WriteString("export " + strings.Join(exported, ", ") + ";\n" + own.String() + "}\n")
	}
	return b.String()
}

// TestFlatConsequences is for P7.3: names are qualified and declared; a closure has the same declarations; other names of modules change only the qualified names.
func TestFlatConsequences(t *testing.T) {
	for seed := range 40 {
		plain := func(i int) string { return "M" + strconv.Itoa(i) }
		other := func(i int) string { return "Other" + strconv.Itoa(9-i) }
		s := randomModules(rand.New(rand.NewSource(int64(seed))), 4, plain)
		p := programOf(t, s)
		flat, _, e := Flat(p)
		if e != api.OK {
			t.Fatalf("Flat of %q: %d", s, e)
		}
		names, e := Names(flat)
		globals, f := tree.Globals(flat)
		if e != api.OK || f != api.OK {
			t.Fatalf("Names, Globals: %d, %d", e, f)
		}
		for _, g := range globals {
			if module, _, _ := Split(g); module == "" || !slices.Contains(names, g) {
				t.Fatalf("the name %q in the flat program of %q", g, s)
			}
		}
		renamed, _, e := Flat(programOf(t, randomModules(rand.New(rand.NewSource(int64(seed))), 4, other)))
		if e != api.OK {
			t.Fatalf("Flat of renamed modules: %d", e)
		}
		back := text(t, renamed)
		for i := range 4 {
			back = strings.ReplaceAll(back, other(i)+"::", plain(i)+"::")
		}
		if back != text(t, flat) {
			t.Fatalf("other names of the modules of %q change more than names", s)
		}
		for i := range 4 {
			closure, e := Closure(p, plain(i))
			if e != api.OK {
				t.Fatalf("Closure: %d", e)
			}
			part, _, e := Flat(closure)
			if e != api.OK || !strings.HasPrefix(text(t, flat), text(t, part)) {
				t.Fatalf("the closure of %s in %q has other declarations: %d", plain(i), s, e)
			}
		}
	}
}

// TestMemory is for the rule on memory: results share none with arguments or with each other.
func TestMemory(t *testing.T) {
	p := programOf(t, example)
	before := text(t, p)
	for range 2 {
		flat, _, _ := Flat(p)
		closure, _ := Closure(p, "A")
		for _, result := range []api.Tree{flat, closure} {
			for i := range result {
				result[i].Text = "changed"
				for j := range result[i].Kids {
					result[i].Kids[j] = -1
				}
			}
		}
		if text(t, p) != before {
			t.Fatal("the argument is changed")
		}
	}
}
