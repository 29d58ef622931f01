package calls

import (
	"strings"
	"testing"

	"entail/api"
)

// TestMeasure is for P11.2: the expressions that are given, or the parameters.
func TestMeasure(t *testing.T) {
	p := programOf(t, example+others+`
function none(): int { 1 }
function two(x: int, ghost y: D): int decreases x - 1, #s + 2, y { x }
method last(ghost a: int, b: seq<int>) returns (c: int) decreases b { while c < a decreases a - c { c := c + 1; } }
method loop(a: int) returns (c: int) { while c < a decreases a - c { c := c + 1; } }
`)
	for name, c := range map[string]struct {
		want  string
		given bool
	}{
		"M::f": {"n", false}, "M::h": {"", false}, "M::l": {"n; s", false}, "M::m": {"n; k", false},
		"f": {"j(x)", true}, "run": {"m(x)", true}, "k": {"x; y", false}, "walk": {"", false},
		"none": {"", false}, "two": {"x - 1; #s + 2; y", true}, "last": {"b", true}, "loop": {"a", false},
	} {
		if got, given, e := Measure(p, name); show(got) != c.want || given != c.given || e != api.OK {
			t.Errorf("Measure of %s: %s, %v, %d, want %s", name, show(got), given, e, c.want)
		}
	}
	l, _, _ := Measure(p, "M::f")
	if len(l) != 1 || len(l[0]) != 1 || l[0][0].Op != api.EVar {
		t.Errorf("Measure of M::f: %v", l)
	}
}

// TestLoopMeasure is for P11.2: what is given, or what the condition says.
func TestLoopMeasure(t *testing.T) {
	for condition, want := range map[string]string{
		"i < n":                     "n - i",
		"i <= n":                    "n - i",
		"i + 1 < n * 2":             "n * 2 - (i + 1)",
		"a - b <= c - d":            "c - d - (a - b)",
		"i < n && 0 < k":            "n - i",
		"b && i < n":                "n - i",
		"b && c && i <= n":          "n - i",
		"(b && i < n) && j < m":     "n - i",
		"(b && c) && (d && i < n)":  "n - i",
		"b && c":                    "",
		"i == n":                    "",
		"i != n":                    "",
		"n > i":                     "n - i", // which is i < n
		"n >= i":                    "n - i",
		"b":                         "",
		"!(i < n)":                  "",
		"i < n || j < m":            "",
		"i < n ==> j < m":           "",
		"b && (i < n || j < m)":     "",
		"(i < n || j < m) && k < l": "l - k",
		"true":                      "",
		"x in s && i < n":           "n - i",
		"0 <= i < n":                "i - 0",
		"s < t":                     "t - s",
		"(if b then 1 else 2) < n":  "n - (if b then 1 else 2)",
	} {
		for _, given := range []string{"", " decreases k, l + 1"} {
			p := programOf(t, "method m() { while "+condition+" invariant i < j"+given+" { while b { } } }")
			outer := -1
			for node, n := range p {
				if n.Op == api.SWhile {
					outer = node
				}
			}
			if given != "" {
				want = "k; l + 1"
			}
			got, is, e := LoopMeasure(p, outer)
			if show(got) != want || is != (given != "") || e != api.OK {
				t.Errorf("LoopMeasure of %s%s: %s, %v, %d, want %s", condition, given, show(got), is, e, want)
			}
		}
	}
}

// TestLoopErrors is for P11.2: nodes that do not exist, or are no loops.
func TestLoopErrors(t *testing.T) {
	p := programOf(t, "method m() { while b { } }")
	for node := -2; node < len(p)+2; node++ {
		want := api.ErrKind
		switch {
		case node < 0 || node >= len(p):
			want = api.ErrUnknown
		case p[node].Op == api.SWhile:
			want = api.OK
		}
		if l, is, e := LoopMeasure(p, node); len(l) > 0 || is || e != want {
			t.Errorf("LoopMeasure of node %d: %v, %v, %d, want %d", node, l, is, e, want)
		}
	}
}

// TestInduction is for P11.2: the parameters of lemmas over which induction goes.
func TestInduction(t *testing.T) {
	const declared = `
datatype M::D = M::Nil | M::Cons(tail: M::D)
datatype List<T> = None | Some(T, List<T>)
type M::Nat = x: int | 0 <= x witness 0
class M::Cell { }
datatype M::Twice = M::Thrice
class M::Twice { }
class M::Class { }
datatype M::Class = M::C1
type M::Subset = x: int | true witness 0
datatype M::Subset = M::C2
datatype M::Cons = M::Cons
function f(n: int): int { if n <= 0 then 0 else f(n - 1) }
function g(n: int): int { h(n) }
function h(n: int): int { g(n) }
function plain(n: int): int { n }
function size(d: M::D): int { size(d) }
function callMethod(n: int): int { loop(n) }
method loop(n: int) returns (m: int) { m := call loop(n); }
`
	for text, want := range map[string]string{
		"lemma method l(n: int) ensures f(n) == 0":                                                            "n",
		"lemma method l(n: int) requires f(n) == 0":                                                           "n",
		"lemma method l(ghost n: int) ensures f(n) == 0":                                                      "n",
		"lemma method l(n: int) ensures plain(n) == 0":                                                        "",
		"lemma method l(n: int) ensures h(n) == 0":                                                            "n",
		"lemma method l(n: int) ensures callMethod(n) == 0":                                                   "",
		"lemma method l(n: int) ensures loop(n) == 0":                                                         "",
		"lemma method l(n: int) ensures missing(n) == 0":                                                      "",
		"lemma method l(n: int) decreases f(n)":                                                               "",
		"lemma method l(n: int) { assert f(n) == 0; }":                                                        "",
		"lemma method l(a: int, b: int, c: int) ensures f(c) == f(a + 1)":                                     "a c",
		"lemma method l(a: int, b: int) requires f(b) == 0 ensures f(a) == 0":                                 "a b",
		"lemma method l(a: int, b: int) ensures f(plain(a)) == plain(b)":                                      "a",
		"lemma method l(a: int, b: int) ensures plain(f(a) + b) == 0":                                         "a",
		"lemma method l(a: int, b: int) ensures f(if b < 0 then a else 1) == 0":                               "a b",
		"lemma method l(a: int) ensures forall b: int :: f(b) == a":                                           "",
		"lemma method l(a: int) ensures forall b: int :: f(b + a) == a":                                       "a",
		"lemma method l(a: int) ensures f(var b := a; b) == 0":                                                "a",
		"lemma method l(a: int, b: int) ensures f(var b := a; b) == 0":                                        "a",
		"lemma method l(a: int, b: int) ensures var b := a; f(b) == 0":                                        "b", // free in the argument
		"lemma method l(a: bv8, b: seq<int>, c: M::D, d: List<int>) ensures f(a, b, c, d)":                    "a b c d",
		"lemma method l(a: M::Nat, b: bool, c: real, d: set<int>) ensures f(a, b, c, d)":                      "",
		"lemma method l(a: multiset<int>, b: map<int, int>, c: array<int>, d: M::Cell) ensures f(a, b, c, d)": "",
		"lemma method l(a: int, b: M::D) ensures plain(a) == 0":                                               "b",
		"lemma method l(a: int, b: M::D, c: M::D) ensures plain(a) == 0":                                      "b",
		"lemma method l(a: int, b: M::D) ensures f(a) == 0":                                                   "a",
		"lemma method l(a: M::Nat, ghost b: List<int>) ensures f(a) == 0":                                     "b",
		"lemma method l(a: M::Nat, b: M::Cell) ensures f(a) == 0":                                             "",
		"lemma method l(a: M::D, b: M::D) ensures size(b) == 0":                                               "b",
		"lemma method l(a: M::Twice) ensures f(a) == 0":                                                       "a", // the first declaration of a name is meant
		"lemma method l(a: M::Class) ensures f(a) == 0":                                                       "",
		"lemma method l(a: M::Subset) ensures f(a) == 0":                                                      "",
		"lemma method l(a: M::Cons) ensures f(a) == 0":                                                        "",
		"lemma method l(a: M::D, b: int) ensures plain(b) == 0":                                               "a",
		"lemma method l<T>(a: T, b: List<T>) ensures f(a) == 0":                                               "b",
		"lemma method l<List>(a: List, b: int) ensures f(a) == 0":                                             "",
		"lemma method l(a: Unknown) ensures f(a) == 0":                                                        "",
		"lemma method l() ensures f(1) == 0":                                                                  "",
		"ghost lemma method l(n: int) ensures f(n) == 0":                                                      "n",
		"lemma method l(n: int) ensures f(old(n)) == 0":                                                       "n",
		"lemma method l(n: int) returns (m: int) ensures f(m) == f(n)":                                        "n",
	} {
		source := strings.ReplaceAll(declared, "Some(T, List<T>)", "Some(item: T, rest: List<T>)") + text
		if got, e := Induction(programOf(t, source), "l"); strings.Join(got, " ") != want || e != api.OK {
			t.Errorf("Induction of %s: %v, %d, want %s", text, got, e, want)
		}
	}
	for text, want := range map[string]api.Errno{
		"method l(n: int) ensures f(n) == 0":       api.ErrKind,
		"ghost method l(n: int) ensures f(n) == 0": api.ErrKind,
		"lemma function l(n: int): int":            api.ErrKind,
		"function l(n: int): int":                  api.ErrKind,
		"const l: int := 1;":                       api.ErrKind,
		"lemma method k(n: int)":                   api.ErrUnknown,
	} {
		if got, e := Induction(programOf(t, text), "l"); len(got) > 0 || e != want {
			t.Errorf("Induction of %s: %v, %d, want %d", text, got, e, want)
		}
	}
}
