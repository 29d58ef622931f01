package types

import (
	"testing"

	"entail/api"
	"entail/parse"
	"entail/tree"
)

// programOf returns the tree of a program.
func programOf(t *testing.T, text string) api.Tree {
	t.Helper()
	p, at, e := parse.Program(text)
	if e != api.OK {
		t.Fatalf("the program %.200q: %d at %d", text, e, at)
	}
	return p
}

// samples are declarations of all kinds, the first ones as in the document.
const samples = `
datatype List<T> = Nil | Cons(head: T, tail: List<T>)
type Nat = x: int | 0 <= x witness 0
class Cell { var v: int; ghost var old_v: Nat; }
datatype Loop = More(rest: Loop)
datatype Pair<A, B> = Two(fst: A, snd: B)
datatype Color = Red | Green
datatype M::D<S, T> = M::E(f: map<S, seq<T>>, g: M::D<T, S>) | M::F(g: bool, h: S)
type Big = n: Nat | 10 <= n witness 12
type Row = r: seq<Big> | 1 <= #r witness [12]
type Round = s: seq<Round> | true witness []
type Ping = p: Pair<int, Pong> | true witness p
type Pong = p: set<Ping> | true witness p
const limit: int := 3;
ghost fuel 2 function f<S, T>(l: List<T>, ghost n: Nat): M::D<S, T>
method M::m(x: int) returns (y: int, z: seq<bool>) { }
lemma method n()
datatype Same = Same | Other(f: int)
class Twice { var a: int; }
datatype Twice = Thrice
`

// badTrees are trees that are no flat programs, with their errors.
func badTrees(t *testing.T) map[string]struct {
	tree api.Tree
	want api.Errno
} {
	sum := api.Tree{{Op: api.EVar, Text: "x"}, {Op: api.EVar, Text: "y"}, {Op: api.EAdd, Kids: []int{0, 1}}}
	module := api.Tree{{Op: api.MModule}}
	refined, e := tree.Make(api.MModule, "", []api.Tree{{{Op: api.MRefines, Text: "A"}}})
	if e != api.OK {
		t.Fatalf("Make: %d", e)
	}
	program, e := tree.Make(api.MProgram, "", []api.Tree{refined})
	if e != api.OK {
		t.Fatalf("Make: %d", e)
	}
	return map[string]struct {
		tree api.Tree
		want api.Errno
	}{
		"not":          {api.Tree{{Op: api.EVar, Text: "x"}, {Op: api.ENot, Kids: []int{0}}}, api.ErrKind},
		"no names":     {api.Tree{{Op: api.MModule}, {Op: api.MModule}, {Op: api.MProgram, Kids: []int{0, 1}}}, api.ErrKind},
		"nothing":      {nil, api.ErrEmpty},
		"too many":     {make(api.Tree, api.MaxNodes+1), api.ErrMany},
		"no tree":      {api.Tree{{Op: api.EVar, Text: "X"}}, api.ErrName},
		"a sum":        {sum, api.ErrKind},
		"a module":     {module, api.ErrKind},
		"a name":       {programOf(t, "module A { }"), api.ErrKind},
		"two modules":  {programOf(t, "module A { } module B { }"), api.ErrKind},
		"an import":    {programOf(t, "import A; const c: int := 1;"), api.ErrKind},
		"an export":    {programOf(t, "export c; const c: int := 1;"), api.ErrKind},
		"a refinement": {program, api.ErrKind},
	}
}

// call is a call of one of the functions with a program, for any other arguments.
type call struct {
	name string
	call func(p api.Tree, s string) api.Errno
}

// calls returns the functions that take a program and a type.
func calls() []call {
	return []call{
		{"Check", func(p api.Tree, s string) api.Errno { return Check(p, s, nil) }},
		{"Base", func(p api.Tree, s string) api.Errno { _, e := Base(p, s); return e }},
		{"Constructors", func(p api.Tree, s string) api.Errno { _, e := Constructors(p, s); return e }},
		{"Fields", func(p api.Tree, s string) api.Errno { _, e := Fields(p, s); return e }},
		{"Member", func(p api.Tree, s string) api.Errno { _, _, e := Member(p, s, "x"); return e }},
		{"Inhabited", func(p api.Tree, s string) api.Errno { _, e := Inhabited(p, s, nil); return e }},
		{"Default", func(p api.Tree, s string) api.Errno { _, e := Default(p, s); return e }},
		{"Finite", func(p api.Tree, s string) api.Errno { _, e := Finite(p, s); return e }},
	}
}
