package module

import (
	"math/rand"
	"slices"
	"strconv"
	"strings"
	"testing"

	"entail/api"
	"entail/parse"
)

// TestOrder is for P7.1: the first module of the text that can be taken, again and again.
func TestOrder(t *testing.T) {
	for s, want := range map[string][]string{
		example:                                  {"B", "A"},
		"":                                       {""},
		"const c: int := 1;":                     {""},
		"module A { }":                           {"A"},
		"module C { } module A { } module B { }": {"C", "A", "B"},
		"module A { import C; } module B { } module C { import D; } module D { }":           {"B", "D", "C", "A"},
		"module A refines B { } module B { import C; } module C { }":                        {"C", "B", "A"},
		"module A refines C { import B; } module B { import C; } module C { }":              {"C", "B", "A"},
		"module A { import D; } module B { import D; } module C { import A; } module D { }": {"D", "A", "B", "C"},
	} {
		if got, node, e := Order(programOf(t, s)); !equal(got, want) || node != 0 || e != api.OK {
			t.Errorf("Order of %q: %q, %d, %d, want %q", s, got, node, e, want)
		}
	}
	p := programTree(t, moduleTree(t, "A"), moduleTree(t, "", api.Tree{{Op: api.MImport, Text: "B"}}), moduleTree(t, "B"))
	if got, _, e := Order(p); !equal(got, []string{"A", "B", ""}) || e != api.OK {
		t.Errorf("Order with a module without a name: %q, %d", got, e)
	}
}

// TestProgramErrors is for P7.1 and P7.2: the error of a program, with its node.
func TestProgramErrors(t *testing.T) {
	for _, c := range []struct {
		text string
		at   place
		want api.Errno
	}{
		{"module A { } module A { }", place{api.MModule, "A", 1}, api.ErrTwice},
		{"module A { import B; }", place{api.MImport, "B", 0}, api.ErrUnknown},
		{"module A refines B { }", place{api.MRefines, "B", 0}, api.ErrUnknown},
		{"module A refines A { }", place{api.MRefines, "A", 0}, api.ErrCycle},
		{"module A { import A; }", place{api.MImport, "A", 0}, api.ErrCycle},
		{"module A { import B; import B; } module B { }", place{api.MImport, "B", 1}, api.ErrTwice},
		{"module A refines B { import B; } module B { }", place{api.MImport, "B", 0}, api.ErrTwice},
		{"module A { import B; import A; import C; } module B { }", place{api.MImport, "A", 0}, api.ErrCycle},
		{"module A refines C { import A; }", place{api.MRefines, "C", 0}, api.ErrUnknown},
		{"module A { import B; } module A { } module B { }", place{api.MModule, "A", 1}, api.ErrTwice},
		{"module A { import C; } module A { }", place{api.MImport, "C", 0}, api.ErrUnknown},
		{"module A { } module A { import C; }", place{api.MModule, "A", 1}, api.ErrTwice},
		{"module C { } module A { import B; } module B { import A; }", place{api.MModule, "A", 0}, api.ErrCycle},
		{"module C { import B; } module A { import B; } module B { import A; }", place{api.MModule, "C", 0}, api.ErrCycle},
		{"module A { import B; } module B refines A { }", place{api.MModule, "A", 0}, api.ErrCycle},
		{"module A { import B; } module B { import A; import C; }", place{api.MImport, "C", 0}, api.ErrUnknown},
		{"module A { const c: int := 1; function c(): int }", place{api.DFunction, "c", 0}, api.ErrTwice},
		{"module A { datatype T = T }", place{api.DCons, "T", 0}, api.ErrTwice},
		{"module A { datatype T = U | V class U { } }", place{api.DClass, "U", 0}, api.ErrTwice},
		{"module A { class U { } datatype T = U | V }", place{api.DCons, "U", 0}, api.ErrTwice},
		{"module A { datatype T = U datatype U = V }", place{api.DDatatype, "U", 0}, api.ErrTwice},
		{"datatype T = U | U", place{api.DCons, "U", 1}, api.ErrTwice},
		{"module A { export x; }", place{api.MName, "x", 0}, api.ErrUnknown},
		{"module A { export +x; }", place{api.MName, "+x", 0}, api.ErrUnknown},
		{"module A { export T, U; datatype T = U }", place{api.MName, "U", 0}, api.ErrKind},
		{"module A { export T, +U; datatype T = U }", place{api.MName, "+U", 0}, api.ErrKind},
		{"module A { export T, +T; datatype T = U }", place{api.MName, "+T", 0}, api.ErrTwice},
		{"module A { export +T, T; datatype T = U }", place{api.MName, "T", 0}, api.ErrTwice},
		{"module A { export f, f; function f(): int }", place{api.MName, "f", 1}, api.ErrTwice},
		{"module A { export v; datatype T = U(v: int) }", place{api.MName, "v", 0}, api.ErrUnknown},
		{"module A { export x; const c: int := 1; const c: int := 2; }", place{api.DConst, "c", 1}, api.ErrTwice},
		{"module A { export x; } module B { const c: int := 1; const c: int := 2; }", place{api.MName, "x", 0}, api.ErrUnknown},
		{"module A { const c: int := 1; const c: int := 2; } module B { import B; }", place{api.MImport, "B", 0}, api.ErrCycle},
		{"module A { import B; const c: int := 1; const c: int := 2; } module B { import A; }", place{api.MModule, "A", 0}, api.ErrCycle},
		{"module A { import B; export g; } module B { function g(): int }", place{api.MName, "g", 0}, api.ErrUnknown},
	} {
		p := programOf(t, c.text)
		at := c.at.in(t, p)
		if got, node, e := Order(p); len(got) > 0 || node != at || e != c.want {
			t.Errorf("Order of %q: %q, %d, %d, want %d, %d", c.text, got, node, e, at, c.want)
		}
		if got, node, e := Flat(p); len(got) > 0 || node != at || e != c.want {
			t.Errorf("Flat of %q: %d, %d, want %d, %d", c.text, node, e, at, c.want)
		}
		for i, e := range errnos(p, "Nope", "1") {
			if e != c.want {
				t.Errorf("function %d of %q: %d, want %d", i, c.text, e, c.want)
			}
		}
	}
}

// TestNoPrograms is for P7.1 and P7.2: trees that are no programs.
func TestNoPrograms(t *testing.T) {
	sum := api.Tree{{Op: api.EVar, Text: "x"}, {Op: api.EVar, Text: "y"}, {Op: api.EAdd, Kids: []int{0, 1}}}
	for i, c := range []struct {
		tree api.Tree
		node int
		want api.Errno
	}{
		{nil, 0, api.ErrEmpty},
		{make(api.Tree, api.MaxNodes+1), 0, api.ErrMany},
		{sum, 2, api.ErrKind},
		{api.Tree{{Op: api.MModule, Text: "A"}}, 0, api.ErrKind},
		{api.Tree{{Op: api.EVar, Text: "x"}, {Op: api.EVar, Text: "X"}, {Op: api.EAdd, Kids: []int{0, 1}}}, 1, api.ErrName},
		{api.Tree{{Op: api.MModule, Text: "A"}, {Op: api.MProgram}}, 1, api.ErrShape},
	} {
		if got, node, e := Order(c.tree); len(got) > 0 || node != c.node || e != c.want {
			t.Errorf("%d: Order: %q, %d, %d, want %d, %d", i, got, node, e, c.node, c.want)
		}
		if got, node, e := Flat(c.tree); len(got) > 0 || node != c.node || e != c.want {
			t.Errorf("%d: Flat: %d, %d, want %d, %d", i, node, e, c.node, c.want)
		}
		for j, e := range errnos(c.tree, "A", "1") {
			if e != c.want {
				t.Errorf("%d: function %d: %d, want %d", i, j, e, c.want)
			}
		}
	}
}

// TestUnknownModules is for P7.1 and P7.2: errors of the module's name come before those of a name in it.
func TestUnknownModules(t *testing.T) {
	for _, module := range []string{"C", "", "b", "B::g", "\xff"} {
		for i, e := range errnos(programOf(t, example), module, "1") {
			if e != api.ErrUnknown {
				t.Errorf("function %d for the module %q: %d", i, module, e)
			}
		}
	}
	for i, e := range errnos(programOf(t, "const c: int := 1;"), "", "c") {
		if e != api.OK {
			t.Errorf("function %d for the module without a name: %d", i, e)
		}
	}
}

// TestRandomOrders is for P7.1 and P7.3: orders and cycles of random modules, by the definition.
func TestRandomOrders(t *testing.T) {
	r := rand.New(rand.NewSource(1))
	for range 400 {
		count := 1 + r.Intn(7)
		needs := make([][]int, count)
		var b strings.Builder
		for i := range count {
			imports := ""
			refines := ""
			for j := range count {
				if i == j || r.Intn(5) > 0 || r.Intn(3) > 0 && j < i {
					continue
				}
				needs[i] = append(needs[i], j)
				if refines == "" && r.Intn(3) == 0 {
					refines = " refines M" + strconv.Itoa(j)
				} else {
					imports += " import M" + strconv.Itoa(j) + ";"
				}
			}
			b.WriteString("module M" + strconv.Itoa(i) + refines + " {" + imports + " }\n")
		}
		taken := make([]bool, count)
		var want []string
		for again := true; again; {
			again = false
			for i := range count {
				if !taken[i] && !slices.ContainsFunc(needs[i], func(j int) bool { return !taken[j] }) {
					taken[i], again = true, true
					want = append(want, "M"+strconv.Itoa(i))
					break
				}
			}
		}
		p := programOf(t, b.String())
		got, node, e := Order(p)
		if len(want) == count {
			if !equal(got, want) || node != 0 || e != api.OK {
				t.Fatalf("Order of %q: %q, %d, %d, want %q", b.String(), got, node, e, want)
			}
			continue
		}
		at := place{api.MModule, "M" + strconv.Itoa(slices.Index(taken, false)), 0}.in(t, p)
		if len(got) > 0 || node != at || e != api.ErrCycle {
			t.Fatalf("Order of %q: %q, %d, %d, want %d and ErrCycle", b.String(), got, node, e, at)
		}
	}
}

// TestAnyArguments is for P1: no tree and no names make a function panic, and beside an error there is no result.
func TestAnyArguments(t *testing.T) {
	r := rand.New(rand.NewSource(2))
	base := programOf(t, example+" module C { import A; import B; method m(x: int) returns (y: int) { var z: int := B::g(x); y := z; } function k<T>(x: B::D, y: T): int { match x { case B::Nil => A::c case B::One(v) => v } } }")
	texts := []string{"", "x", "A", "B", "A::c", "B::g", "g", "T", "+g", "D", "Nil", "0", "\xff"}
	for range 4000 {
		p := make(api.Tree, 0, len(base))
		for _, n := range base {
			n.Kids = slices.Clone(n.Kids)
			p = append(p, n)
		}
		for range r.Intn(3) {
			n := &p[r.Intn(len(p))]
			switch r.Intn(5) {
			case 0:
				n.Op = r.Intn(api.Ops+4) - 2
			case 1, 2, 3:
				n.Text = texts[r.Intn(len(texts))]
			default:
				n.Kids = append(n.Kids, r.Intn(len(p)+4)-2)
			}
		}
		for i, e := range errnos(p, texts[r.Intn(len(texts))], texts[r.Intn(len(texts))]) {
			if e < 0 {
				t.Fatalf("function %d has a result beside an error", i)
			}
		}
		if l, node, e := Order(p); e != api.OK && len(l) > 0 || e == api.OK && node != 0 {
			t.Fatalf("Order: %q, %d, %d", l, node, e)
		}
		if f, node, e := Flat(p); e != api.OK && len(f) > 0 || e == api.OK && node != 0 {
			t.Fatalf("Flat: %v, %d, %d", f, node, e)
		}
		if l, e := Names(p); e != api.OK && len(l) > 0 {
			t.Fatalf("Names: %q, %d", l, e)
		}
	}
	for _, s := range []string{"::", ":", "a:", ":a", "\xff::a", "a::\xff"} {
		if m, n, e := Split(s); m != "" || n != "" || e != api.ErrName {
			t.Errorf("Split(%q): %q, %q, %d", s, m, n, e)
		}
	}
	if _, _, e := parse.Program("module A { export; }"); e != api.OK {
		t.Errorf("an export of nothing: %d", e)
	}
}
