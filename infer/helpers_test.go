package infer

import (
	"slices"
	"strings"
	"testing"

	"entail/api"
	"entail/parse"
	"entail/tree"
)

// samples are declarations of all kinds, the first ones as in the document.
const samples = `
datatype List<T> = Nil | Cons(head: T, tail: List<T>)
type Nat = x: int | 0 <= x witness 0
class Cell { var v: int; ghost var old_v: Nat; }
datatype Loop = More(rest: Loop) | Done
datatype Pair<A, B> = Two(fst: A, snd: B)
datatype Phantom<T> = Ghost(n: Nat)
class Node { var next: Node; var items: seq<Nat>; var cell: Cell; }
type Row = r: seq<Nat> | true witness []
type Handle = c: Cell | true witness cell()
const limit: Nat := 3;
const M::table: map<int, Row> := map[];
function len<T>(l: List<T>): Nat
function choose<A, B>(a: A, b: B, n: Nat): Pair<B, A>
function unit(): real
function row(r: Row): Row
function any<T>(): int
function cell(): Cell
`

// programOf returns the tree of a program.
func programOf(t *testing.T, text string) api.Tree {
	t.Helper()
	p, at, e := parse.Program(text)
	if e != api.OK {
		t.Fatalf("the program %.300q: %d at %d", text, e, at)
	}
	return p
}

// expressionOf returns the tree of an expression.
func expressionOf(t *testing.T, text string) api.Tree {
	t.Helper()
	x, at, e := parse.Expression(text)
	if e != api.OK {
		t.Fatalf("the expression %.300q: %d at %d", text, e, at)
	}
	return x
}

// variables are those that the expressions of the tests use.
func variables() []api.Bound {
	return []api.Bound{
		{Name: "x", Sort: "int"}, {Name: "y", Sort: "Nat"}, {Name: "q", Sort: "real"}, {Name: "b", Sort: "bool"}, {Name: "w", Sort: "bv8"}, {Name: "l", Sort: "List<Nat>"}, {Name: "s", Sort: "seq<int>"}, {Name: "row_s", Sort: "Row"}, {Name: "z", Sort: "set<real>"}, {Name: "u", Sort: "multiset<bool>"},
		{Name: "m", Sort: "map<int,Row>"}, {Name: "a", Sort: "array<Nat>"}, {Name: "c", Sort: "Cell"}, {Name: "n", Sort: "Node"}, {Name: "p", Sort: "Pair<int,bool>"}, {Name: "h", Sort: "Handle"},
	}
}

// place says which node of a tree is meant: the one with a number among those from a node on whose text, as tree.Print writes it, is the given one.
func place(t *testing.T, p api.Tree, from int, text string, among int) int {
	t.Helper()
	for i := from; i < len(p); i++ {
		sub, e := tree.Sub(p, i)
		if e != api.OK {
			t.Fatalf("Sub: %d", e)
		}
		if s, e := tree.Print(sub); e == api.OK && strings.Join(strings.Fields(s), " ") == text {
			if among == 0 {
				return i
			}
			among--
		}
	}
	t.Fatalf("there is no node %q", text)
	return 0
}

// first returns the first node of an Op with a Text.
func first(t *testing.T, p api.Tree, op int, text string) int {
	t.Helper()
	i := slices.IndexFunc(p, func(n api.Node) bool { return n.Op == op && n.Text == text })
	if i < 0 {
		t.Fatalf("there is no node %d %q", op, text)
	}
	return i
}

// errnos returns the errors of all functions for a program; beside an error there is no result.
func errnos(t *testing.T, p api.Tree) (int, api.Errno) {
	t.Helper()
	types, n0, e0 := Types(p)
	instances, n1, e1 := Instances(p)
	flows, n2, e2 := Flows(p)
	context, e3 := Context(p, -1)
	if n1 != n0 || n2 != n0 || e1 != e0 || e2 != e0 || e3 != e0 && (e0 != api.OK || e3 != api.ErrUnknown) {
		t.Errorf("Types: %d, %d, Instances: %d, %d, Flows: %d, %d, Context: %d", n0, e0, n1, e1, n2, e2, e3)
	}
	if e0 != api.OK && len(types)+len(instances)+len(flows)+len(context) > 0 || e0 == api.OK && (n0 != 0 || len(types) != len(p)) {
		t.Errorf("%d types, %d instances, %d flows, %d variables beside %d at %d", len(types), len(instances), len(flows), len(context), e0, n0)
	}
	return n0, e0
}

// name returns the name of a datatype, with a length from 1 to 24; names declares them all.
func name(length int) string {
	return "N" + strings.Repeat("a", length-1)
}

func names() string {
	out := ""
	for i := range api.MaxName {
		out += "datatype " + name(i+1) + " = K" + strings.Repeat("a", i) + " "
	}
	return out
}

// long returns a type with a length, from 8 on, in which names declares all names.
func long(length int) string {
	switch {
	case length > 54:
		return "map<" + name(24) + "," + long(length-30) + ">"
	case length > 24:
		first := min(24, length-7)
		return "map<" + name(first) + "," + name(length-6-first) + ">"
	}
	return name(length)
}
