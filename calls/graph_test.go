package calls

import (
	"math/rand"
	"slices"
	"strconv"
	"strings"
	"testing"

	"entail/api"
	"entail/tree"
)

// example is the program of the document.
const example = `
function M::f(n: int): int { if n <= 0 then 0 else M::g(n - 1) }
function M::g(n: int): int { M::f(n) + M::h() }
function M::h(): int { 1 }
lemma method M::l(n: int, s: seq<bool>) ensures M::f(n) == 0 { }
method M::m(n: int, k: int) { var i: int := 0; while i < n && 0 < k { i := i + 1; } }
`

// others is a program with calls everywhere, and declarations that are no callables.
const others = `
datatype D = Nil | Cons(head: int)
type Nat = x: int | f(x) == 0 witness g()
class Cell { var v: int; }
const c: int := f(1);
function f(x: int): int requires g() == 0 reads {} ensures h(x) == i(x) decreases j(x) { k(l(x), f(m(x))) }
function g(): int { c }
function h(x: int): int { x }
function i(x: int): int { unknown(x) }
function j(x: int): int { D::j(x) }
function k(x: int, y: int): int
function l(x: int): int { c }
ghost function m(x: int): int { f(x) }
method run(x: int, ghost y: int) returns (z: int)
	requires l(x) == 0 modifies {} ensures z == k(x, x) decreases m(x)
{
	ghost var w: int := h(x);
	while x < g() invariant i(x) == 0 decreases j(x) { call prove(l(1)); }
	assert f(x) == 0 by { call prove(x); }
	forall q: int | m(q) == 0 ensures h(q) == 0 { z := call run(q, q); }
	calc { g(); == { call walk(); } h(1); }
	reveal h;
}
lemma method prove(x: int) ensures x == 0 { call prove(x - 1); }
method walk() { call f(1); call missing(); return; }
`

// TestCalls is for P11.1: what declarations call, in the order of the nodes, each once.
func TestCalls(t *testing.T) {
	for text, all := range map[string]map[string]string{
		example: {"M::f": "M::g", "M::g": "M::f M::h", "M::h": "", "M::l": "M::f", "M::m": ""},
		others: {
			"f": "g h i j l m f k", "g": "", "h": "", "i": "", "j": "", "k": "", "l": "", "m": "f",
			"run": "l k m h g i j prove f run walk", "prove": "prove", "walk": "f",
		},
	} {
		p := programOf(t, text)
		for name, want := range all {
			if got, e := Calls(p, name); strings.Join(got, " ") != want || e != api.OK {
				t.Errorf("Calls of %s: %v, %d, want %s", name, got, e, want)
			}
		}
	}
}

// TestReached is for P11.1: what declarations reach, themselves included, ascending.
func TestReached(t *testing.T) {
	for text, all := range map[string]map[string]string{
		example: {"M::f": "M::f M::g M::h", "M::g": "M::f M::g M::h", "M::h": "M::h", "M::l": "M::f M::g M::h M::l", "M::m": "M::m"},
		others: {
			"f": "f g h i j k l m", "g": "g", "m": "f g h i j k l m", "run": "f g h i j k l m prove run walk",
			"prove": "prove", "walk": "f g h i j k l m walk",
		},
		"function b(): int { B::a() } function B::a(): int { a() } function a(): int { b_1() } function b_1(): int { 1 } function bb(): int { b() }": {
			"b": "B::a a b b_1", "bb": "B::a a b b_1 bb",
		},
	} {
		p := programOf(t, text)
		for name, want := range all {
			if got, e := Reached(p, name); strings.Join(got, " ") != want || e != api.OK {
				t.Errorf("Reached from %s: %v, %d, want %s", name, got, e, want)
			}
		}
	}
}

// showComponents returns the text of components.
func showComponents(list [][]string) string {
	var out []string
	for _, c := range list {
		out = append(out, strings.Join(c, " "))
	}
	return strings.Join(out, "; ")
}

// TestComponents is for P11.1: the components, callees first; where there is a choice, in the order of the program.
func TestComponents(t *testing.T) {
	for text, want := range map[string]string{
		"":      "",
		example: "M::h; M::f M::g; M::l; M::m",
		others:  "g; h; i; j; k; l; f m; prove; walk; run",
		"function a(): int { b() } function b(): int { 1 } function c(): int { 1 }":                                                           "b; a; c",
		"function a(): int { b() } function b(): int { c() } function c(): int { 1 } function d(): int { 1 }":                                 "c; b; a; d",
		"function a(): int { d() } function b(): int { 1 } function c(): int { b() } function d(): int { c() }":                               "b; c; d; a",
		"function a(): int { b() } function b(): int { d() } function c(): int { 1 } function d(): int { a() + c() }":                         "c; a b d",
		"function a(): int { 1 } function a(): int { b() } function b(): int { a() }":                                                         "a; b",
		"function b(): int { a() } function a(): int { 1 } method a() { call b(); } method c() { call a(); }":                                 "a; b; c",
		"method a() { call b(); } method b() { call a(); } method c() { call d(); } method d() { call a(); call c(); }":                       "a b; c d",
		"method a() { call c(); } method b() { call d(); } method c() { call a(); call b(); } method d() { call b(); }":                       "b d; a c",
		"const k: int := 1; function f(): int { k } datatype D = E class C { } method m() { call f(); } type S = x: int | f() == 1 witness 1": "f; m",
	} {
		p := programOf(t, text+" ")
		if got, e := Components(p); showComponents(got) != want || e != api.OK {
			t.Errorf("Components of %.60q: %s, %d, want %s", text, showComponents(got), e, want)
		}
	}
}

// TestTogether is for P11.1: callables that reach each other by at least one call.
func TestTogether(t *testing.T) {
	for _, c := range []struct {
		text, a, b string
		want       bool
	}{
		{example, "M::f", "M::g", true},
		{example, "M::g", "M::f", true},
		{example, "M::f", "M::f", true},
		{example, "M::f", "M::h", false},
		{example, "M::h", "M::f", false},
		{example, "M::h", "M::h", false},
		{example, "M::l", "M::f", false},
		{others, "prove", "prove", true},
		{others, "f", "m", true},
		{others, "run", "run", true},
		{others, "run", "prove", false},
		{others, "c_1", "prove", false},
	} {
		p := programOf(t, strings.ReplaceAll(c.text, "walk", "c_1"))
		if got, e := Together(p, c.a, c.b); got != c.want || e != api.OK {
			t.Errorf("Together(%s, %s): %v, %d", c.a, c.b, got, e)
		}
		if c.a != c.b {
			continue
		}
		if got, e := Recursive(p, c.a); got != c.want || e != api.OK {
			t.Errorf("Recursive(%s): %v, %d", c.a, got, e)
		}
	}
}

// named are the functions with a program and a name.
func named() map[string]func(api.Tree, string) (bool, api.Errno) {
	return map[string]func(api.Tree, string) (bool, api.Errno){
		"Calls":     func(p api.Tree, name string) (bool, api.Errno) { l, e := Calls(p, name); return len(l) > 0, e },
		"Reached":   func(p api.Tree, name string) (bool, api.Errno) { l, e := Reached(p, name); return len(l) > 0, e },
		"Together":  func(p api.Tree, name string) (bool, api.Errno) { return Together(p, name, "other") },
		"Recursive": func(p api.Tree, name string) (bool, api.Errno) { return Recursive(p, name) },
		"Measure": func(p api.Tree, name string) (bool, api.Errno) {
			l, is, e := Measure(p, name)
			return is || len(l) > 0, e
		},
		"Induction":  func(p api.Tree, name string) (bool, api.Errno) { l, e := Induction(p, name); return len(l) > 0, e },
		"Components": func(p api.Tree, _ string) (bool, api.Errno) { l, e := Components(p); return len(l) > 0, e },
		"LoopMeasure": func(p api.Tree, _ string) (bool, api.Errno) {
			l, is, e := LoopMeasure(p, -1)
			return is || len(l) > 0, e
		},
	}
}

// TestNameErrors is for P11.1 and P11.2: the errors of the program, of names that are not declared, and of declarations that are no callables.
func TestNameErrors(t *testing.T) {
	for name, c := range badPrograms(t) {
		for function, call := range named() {
			if something, e := call(c.tree, "f"); something || e != c.want {
				t.Errorf("%s of %s: %v, %d, want %d", function, name, something, e, c.want)
			}
		}
	}
	p := programOf(t, others)
	for name, want := range map[string]api.Errno{
		"": api.ErrUnknown, "x": api.ErrUnknown, "F": api.ErrUnknown, "M::f": api.ErrUnknown, "v": api.ErrUnknown, "head": api.ErrUnknown, "unknown": api.ErrUnknown, "f ": api.ErrUnknown,
		"Nil": api.ErrUnknown, // a constructor is no declaration
		"D":   api.ErrKind, "Nat": api.ErrKind, "Cell": api.ErrKind, "c": api.ErrKind,
	} {
		for function, call := range named() {
			if function == "Components" || function == "LoopMeasure" {
				continue
			}
			if something, e := call(p, name); something || e != want {
				t.Errorf("%s of %s: %v, %d, want %d", function, name, something, e, want)
			}
		}
		if is, e := Together(p, "f", name); is || e != want {
			t.Errorf("Together of f and %s: %v, %d, want %d", name, is, e, want)
		}
	}
	if _, e := Together(p, "c", "x"); e != api.ErrKind {
		t.Errorf("Together of a constant and nothing: %d", e)
	}
	if _, e := Together(p, "x", "c"); e != api.ErrUnknown {
		t.Errorf("Together of nothing and a constant: %d", e)
	}
	imports := programOf(t, "import A; export f; function f(): int { f() }")
	if is, e := Recursive(imports, "f"); !is || e != api.OK {
		t.Errorf("Recursive in a module with imports: %v, %d", is, e)
	}
}

// randomProgram returns a program of functions and methods that call each other, and what calls what.
func randomProgram(t *testing.T, r *rand.Rand) (api.Tree, []string, [][]int) {
	size := 1 + r.Intn(9)
	names, lists := make([]string, size), make([][]int, size)
	text := ""
	for i := range size {
		names[i] = string(rune('a'+r.Intn(3))) + strconv.Itoa(i)
	}
	for i := range size {
		sum := "0"
		for range r.Intn(4) {
			to := r.Intn(size)
			if !slices.Contains(lists[i], to) {
				lists[i] = append(lists[i], to)
			}
			sum += " + " + names[to] + "()"
		}
		if i%3 == 2 {
			text += "method " + names[i] + "() { print " + sum + "; } "
		} else {
			text += "function " + names[i] + "(): int { " + sum + " } "
		}
	}
	return programOf(t, text), names, lists
}

// TestGraphRandomly is for P11.1 and P11.4: random call graphs compared with the definitions: what is reached is closed, components are in their order, each callable is in just one, and calls lead to the same or an earlier one.
func TestGraphRandomly(t *testing.T) {
	r := rand.New(rand.NewSource(111))
	for range 400 {
		p, names, lists := randomProgram(t, r)
		size := len(names)
		reach := make([][]bool, size)
		for i := range size {
			reach[i] = make([]bool, size)
			for _, to := range lists[i] {
				reach[i][to] = true
			}
		}
		for k := range size {
			for i := range size {
				for j := range size {
					reach[i][j] = reach[i][j] || reach[i][k] && reach[k][j]
				}
			}
		}
		for i, name := range names {
			calls, e1 := Calls(p, name)
			var want, all []string
			for _, to := range lists[i] {
				want = append(want, names[to])
			}
			for j, other := range names {
				if i == j || reach[i][j] {
					all = append(all, other)
				}
				if is, e := Together(p, name, other); is != (reach[i][j] && reach[j][i]) || e != api.OK {
					t.Fatalf("Together(%s, %s): %v, %d in %v", name, other, is, e, lists)
				}
			}
			slices.Sort(all)
			reached, e2 := Reached(p, name)
			recursive, e3 := Recursive(p, name)
			if !slices.Equal(calls, want) || !slices.Equal(reached, all) || recursive != reach[i][i] || e1+e2+e3 != api.OK {
				t.Fatalf("%s calls %v, reaches %v, %v in %v", name, calls, reached, recursive, lists)
			}
		}
		checkComponents(t, p, names, lists, reach)
	}
}

// checkComponents compares the components with the definition.
func checkComponents(t *testing.T, p api.Tree, names []string, lists [][]int, reach [][]bool) {
	t.Helper()
	var want [][]string
	taken := make([]bool, len(names))
	for range names {
		for i := range names {
			if taken[i] {
				continue
			}
			var own []int
			ready := true
			for j := range names {
				if i == j || reach[i][j] && reach[j][i] {
					own = append(own, j)
				}
			}
			for _, j := range own {
				for _, to := range lists[j] {
					ready = ready && (taken[to] || slices.Contains(own, to))
				}
			}
			if !ready {
				continue
			}
			var c []string
			for _, j := range own {
				taken[j] = true
				c = append(c, names[j])
			}
			want = append(want, c)
			break
		}
	}
	got, e := Components(p)
	if showComponents(got) != showComponents(want) || e != api.OK {
		t.Fatalf("Components: %v, %d, want %v in %v", got, e, want, lists)
	}
	place := map[string]int{}
	for i, c := range got {
		for _, name := range c {
			if _, found := place[name]; found {
				t.Fatalf("%s is in two components of %v", name, got)
			}
			place[name] = i
		}
	}
	for i, name := range names {
		for _, to := range lists[i] {
			if place[names[to]] > place[name] {
				t.Fatalf("%s calls %s, which comes later in %v", name, names[to], got)
			}
		}
	}
}

// TestManyCallables is for P11.1: as many methods as there can be, each of which is called by the next one, or the other way round.
func TestManyCallables(t *testing.T) {
	text, back := "", ""
	size := 990
	for i := range size {
		text += "method m" + strconv.Itoa(i) + "() { call m" + strconv.Itoa(i+1) + "(); } "
		back += "method m" + strconv.Itoa(i) + "() { call m" + strconv.Itoa(max(i-1, 0)) + "(); } "
	}
	for _, s := range []string{text, back} {
		got, e := Components(programOf(t, s))
		first, last := "m"+strconv.Itoa(size-1), "m0"
		if s == back {
			first, last = last, first
		}
		if len(got) != size || e != api.OK || got[0][0] != first || got[size-1][0] != last {
			t.Errorf("Components of a chain: %d, %d", len(got), e)
		}
	}
	one := text + "method m" + strconv.Itoa(size) + "() { call m0(); }"
	if got, e := Components(programOf(t, one)); len(got) != 1 || len(got[0]) != size+1 || e != api.OK {
		t.Errorf("Components of a ring: %d, %d", len(got), e)
	}
}

// TestGraphKeeps is for P11.1: arguments are not changed.
func TestGraphKeeps(t *testing.T) {
	p, before := programOf(t, others), programOf(t, others)
	l, _, _ := Measure(p, "f")
	l[0][0].Text = "changed"
	l[0][len(l[0])-1].Kids[0] = 7
	for _, call := range named() {
		call(p, "f")
	}
	if !tree.Same(p, before) {
		t.Error("the program was changed")
	}
}
