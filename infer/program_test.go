package infer

import (
	"slices"
	"strings"
	"testing"

	"entail/api"
	"entail/parse"
	"entail/tree"
	"entail/types"
)

// body is the declarations of the document's examples that use the samples.
const body = `
function length<T>(l: List<T>): Nat { match l { case Nil => 0 case Cons(x, r) => 1 + length(r) } }
method m(c: Cell) returns (n: int) modifies c { c.v := length(Cons(1, Nil)); n := c.v; }
`

// TestTypes is for P8.1: types in programs, by the texts of the nodes.
func TestTypes(t *testing.T) {
	for _, c := range []struct {
		program string
		types   map[string]string // of the first node with this text
	}{
		{body, map[string]string{"length(Cons(1, Nil))": "int", "Cons(1, Nil)": "List<int>", "Nil": "List<T>", "length(r)": "int", "r": "List<T>", "x": "T", "Cons(x, r)": "List<T>", "l": "List<T>", "c": "Cell", "c.v": "int", "n": "int", "0": "int", "1 + length(r)": "int"}},
		{"method m() { var s: seq<int> := [] + []; }", map[string]string{"[] + []": "seq<int>", "[]": "seq<int>"}},
		{"function f<T>(x: T, y: seq<T>): bool requires x in y ensures forall z: T :: z in y decreases [x], y { match y { case z => z == y } }", map[string]string{"x": "T", "y": "seq<T>", "z in y": "bool", "z": "T", "[x]": "seq<T>"}},
		{"method m<T>(x: T, c: Cell, a: array<T>) modifies c modifies a modifies {c} modifies {a, a}", map[string]string{"c": "Cell", "a": "array<T>", "{c}": "set<Cell>", "{a, a}": "set<array<T>>"}},
		{"function f(c: Cell): int reads c reads {c} reads set x: Cell | true :: x", map[string]string{"{c}": "set<Cell>", "set x: Cell | true :: x": "set<Cell>"}},
		{"type S = s: Row | #s == 1 witness [1, 2]", map[string]string{"s": "seq<int>", "[1, 2]": "seq<int>", "#s == 1": "bool"}},
		{"type S = l: List<Nat> | true witness Nil", map[string]string{"Nil": "List<int>"}},
		{"const d: map<Nat, Row> := map[];", map[string]string{"map[]": "map<int,seq<int>>"}},
		{"method two<A, B>(a: A) returns (x: B, y: seq<A>) method m() { var i: bool; var j: seq<int>; i, j := call two(1); }", map[string]string{"i": "bool", "j": "seq<int>", "1": "int"}},
		{"method m(x: List<Nat>) { match x { case Cons(h, _) => { print h; } case i => { print i; } } }", map[string]string{"Cons(h, _)": "List<int>", "h": "int", "_": "List<int>", "i": "List<int>"}},
		{"method m(x: int) { match x { case -1 => { } case i => { print i; } } }", map[string]string{"-1": "int", "1": "int", "i": "int"}},
		{"method m(a: array<Row>, n: Node) { a[0] := []; n.items := []; n.next.cell.v := 1; }", map[string]string{"[]": "seq<int>", "a[0]": "seq<int>", "n.items": "seq<int>", "n.next.cell": "Cell"}},
		{"method m() { var c: Cell; c := new Cell(1, 2); var a: array<seq<int>>; a := new array<Row>(3, []); }", map[string]string{"[]": "seq<int>"}},
		{"method m(s: seq<int>) { calc { []; == { print s; } s; == [] + []; } calc { true; ==> false; } calc { 1; <= 2; < 3; == 4; } }", map[string]string{"[]": "seq<int>", "[] + []": "seq<int>"}},
		{"method m(s: seq<Row>) { forall i: Nat, r: Row | r in s ensures r == [] { print i; } }", map[string]string{"i": "int", "r": "seq<int>", "[]": "seq<int>"}},
		{"method m(x: int) { var y: int; y :| y == x; y := *; if { case x < 1 => { } case true => { } } while x < 1 invariant x == 1 decreases x, [x] { } assert x == 1 by { print [x]; } assume true; if x == 1 { } else if true { } }", map[string]string{"[x]": "seq<int>", "x == 1": "bool", "y == x": "bool"}},
		{"method m(h: Handle) { h := new Handle(1, 2); }", map[string]string{"1": "int", "2": "int"}},
		{"method m(h: Handle) { var g: Cell := h; h.v := 1; print fresh(g); }", map[string]string{"h": "Cell", "h.v": "int"}},
		{"datatype Value<T> = V(n: Nat, t: T, r: seq<Value<T>>) function f(v: Value<Row>): Row { if #v.r == 0 then v.t else f(v.r[v.n]) }", map[string]string{"v": "Value<seq<int>>", "v.r": "seq<Value<seq<int>>>", "v.n": "int", "v.t": "seq<int>"}},
	} {
		p := programOf(t, samples+c.program)
		got, node, e := Types(p)
		if e != api.OK || node != 0 || len(got) != len(p) {
			t.Errorf("Types of %q: %d, %d", c.program, node, e)
			continue
		}
		start := len(programOf(t, samples)) - 2
		for text, want := range c.types {
			part := start
			for part < len(p) && !(shown(p, part) == text && got[part] != "") {
				part++
			}
			if part == len(p) || got[part] != want {
				t.Errorf("Types of %q: the node %q is not %q", c.program, text, want)
			}
		}
		for i, n := range p {
			class, _ := tree.Class(n.Op)
			if has := class == tree.Expression || class == tree.Pattern; has != (got[i] != "") {
				t.Errorf("Types of %q: the node %v has the type %q", c.program, n, got[i])
			}
		}
	}
}

// shown returns the text of a node on one line.
func shown(p api.Tree, node int) string {
	sub, _ := tree.Sub(p, node)
	s, _ := tree.Print(sub)
	return strings.Join(strings.Fields(s), " ")
}

// TestInstances is for P8.1: type arguments by ascending nodes; none of declarations without type parameters.
func TestInstances(t *testing.T) {
	for s, want := range map[string]string{
		body: "Nil<T> Cons(x, r)<T> length(r)<T> Nil<int> Cons(1, Nil)<int> length(Cons(1, Nil))<int>",
		"method two<A, B>(a: A) returns (x: B) method m() { var i: bool; i := call two(Done); call n(); } method n()": "i := call two(Done);<Loop,bool>",
		"const d: bool := Two([], 1) == choose(1, [unit()], limit);":                                                  "Two([], 1)<seq<real>,int> choose(1, [unit()], limit)<int,seq<real>>",
		"function f(l: List<Row>): bool { l.Nil? || Done.Done? }":                                                     "l.Nil?<seq<int>>",
		"function f(p: Pair<Row, List<Nat>>): int { match p { case Two(_, Cons(_, Nil)) => 1 case _ => 2 } }":         "Nil<int> Cons(_, Nil)<int> Two(_, Cons(_, Nil))<seq<int>,List<int>>",
		"method m(p: Pair<Row, List<Nat>>) { match p { case Two(_, Cons(_, Nil)) => { } case Two(a, b) => { } } }":    "Nil<int> Cons(_, Nil)<int> Two(_, Cons(_, Nil))<seq<int>,List<int>> Two(a, b)<seq<int>,List<int>>",
		"class C { var v: int; } method m() { var c: C; c := new C(len(Cons(1, Nil))); }":                             "Nil<int> Cons(1, Nil)<int> len(Cons(1, Nil))<int>",
	} {
		p := programOf(t, samples+s)
		got, node, e := Instances(p)
		var texts []string
		last := -1
		for _, i := range got {
			if i.Node <= last {
				t.Errorf("Instances of %q: %v", s, got)
			}
			last = i.Node
			texts = append(texts, shown(p, i.Node)+"<"+strings.Join(i.Args, ",")+">")
		}
		if strings.Join(texts, " ") != want || node != 0 || e != api.OK {
			t.Errorf("Instances of %q:\n%s, %d, %d, want\n%s", s, strings.Join(texts, " "), node, e, want)
		}
	}
}

// TestFlows is for P8.3: values that are assigned to something of a type with subset types in it.
func TestFlows(t *testing.T) {
	for s, want := range map[string]string{
		body: "match l { case Nil => 0 case Cons(x, r) => 1 + length(r) }:Nat",
		"method m() { var a: Nat := 1; var b: int := 2; ghost var c: List<Nat> := Nil; var d: seq<Row>; }":                                                       "1:Nat Nil:List<Nat>",
		"method m(x: Nat, y: int) returns (a: Row, b: seq<int>) { var c: Nat; a := [3]; b := [4]; c := 5; x := 6; y := 7; }":                                     "[3]:Row 5:Nat 6:Nat",
		"method m(n: Node, c: Cell, a: array<Nat>, l: List<Nat>) { n.items := [1]; c.v := 2; c.old_v := 3; n.cell.old_v := 4; a[5] := 6; n.next := n; }":         "[1]:seq<Nat> 3:Nat 4:Nat",
		"method m(c: Cell, n: Node) { c := new Cell(1, 2); n := new Node(n, [3], c); var a: array<int>; a := new array<Nat>(4, 5); a := new array<int>(6, 7); }": "2:Nat [3]:seq<Nat> 5:Nat",
		"function f(): Nat { 1 } function g(): seq<Nat> { [2] } function h(): int { 3 } function i<T>(t: T): Pair<T, Nat> { Two(t, 4) }":                         "1:Nat [2]:seq<Nat> Two(t, 4):Pair<T,Nat>",
		"const c1: Nat := 1; const d: int := 2; const e: List<List<Nat>> := Nil;":                                                                                "1:Nat Nil:List<List<Nat>>",
		"type S = x: int | x == 1 witness 2 type R = y: S | true witness 3":                                                                                      "2:S 3:R",
		"function f(l: List<Nat>): int { row([1])[0] + choose(true, 2, 3).fst + len(l) + len(Cons(4, Nil)) }":                                                    "[1]:Row 3:Nat",
		"const c1: Phantom<int> := Ghost(1);": "1:Nat",
		"datatype V<T> = W(a: Pair<T, Nat>, b: T, c: seq<List<T>>) const c1: V<bool> := W(Two(true, 1), false, []);":                                                                           "Two(true, 1):Pair<bool,Nat>",
		"datatype V<T> = W(a: Pair<T, Nat>) const c1: V<Row> := W(Two([], 1));":                                                                                                                "Two([], 1):Pair<seq<int>,Nat> W(Two([], 1)):V<Row>",
		"method n<T>(t: T, x: Pair<T, Nat>, y: Nat) method m() { call n(true, Two(false, 1), 2); }":                                                                                            "Two(false, 1):Pair<bool,Nat> 2:Nat",
		"method n() returns (x: Nat, y: int, z: int) method m() returns (r: Nat) { var a: int; var b: Nat; a, b, r := call n(); }":                                                             "b:Nat r:Nat",
		"method n<T>() returns (x: T) method m() { var a: List<Nat>; a := call n(); }":                                                                                                         "a:List<Nat>",
		"method m(x: Nat) { print x; assert x == 1; calc { x; == x; } var y: int := x; y := *; y :| y == x; match x { case i => { i := 1; } } forall i: Nat | true ensures true { i := 2; } }": "2:Nat",
		"function f(x: Nat): bool { (var y := x; y == 1) && (forall z: Nat :: z == x) && x in [x] }":                                                                                           "",
		"function id<T>(x: T): T method m(c: Cell) { id(c).old_v := 1; id(id(c)).v := 2; }":                                                                                                    "1:Nat",
		"method m(l: List<Nat>) { l.head := 1; l.tail := l; }":                                                                                                                                 "", // base types stand in place of the type parameters
	} {
		p := programOf(t, samples+s)
		got, node, e := Flows(p)
		var texts []string
		last := -1
		for _, f := range got {
			if f.Node <= last {
				t.Errorf("Flows of %q: %v", s, got)
			}
			last = f.Node
			texts = append(texts, shown(p, f.Node)+":"+f.Type)
		}
		if want = strings.TrimSpace(flowsOfSamples + " " + want); strings.Join(texts, " ") != want || node != 0 || e != api.OK {
			t.Errorf("Flows of %q:\n%s, %d, %d, want\n%s", s, strings.Join(texts, " "), node, e, want)
		}
	}
}

// flowsOfSamples are the flows of the samples.
const flowsOfSamples = "0:Nat []:Row cell():Handle 3:Nat map[]:map<int,Row>"

// TestContext is for P8.3: variables in scope with their declared types, the outermost first.
func TestContext(t *testing.T) {
	const s = `method q<T>(p: Nat, ghost g: seq<T>) returns (o: Row) requires p == 11 ensures p == 12 {
		var a: Nat := 13; { ghost var b: List<Nat> := Cons(14, Nil); print 15; } print 16;
		match Two(a, o) { case Two(f, Nil2) => { } }
	}`
	p := programOf(t, samples+strings.Replace(s, "Nil2", "h", 1)+`
		function rr(x: List<Row>): bool { (var y := x; match y { case Cons(i, j) => (forall k: Nat, x: real {21} :: 22 == #i) case _ => 23 == 24 }) && 25 == 26 }
		type S2 = v: Row | 31 == 32 witness [33]
		method w() { forall e: Nat | 41 == 42 ensures 43 == 44 { print 45; } }`)
	for _, c := range []struct {
		text, want string
	}{
		{"11", "p:Nat g:seq<T>"}, {"12", "p:Nat g:seq<T> o:Row"}, {"13", "p:Nat g:seq<T> o:Row"}, {"14", "p:Nat g:seq<T> o:Row a:Nat"}, {"15", "p:Nat g:seq<T> o:Row a:Nat b:List<Nat>"}, {"16", "p:Nat g:seq<T> o:Row a:Nat"},
		{"21", "y:List<seq<int>> i:seq<int> j:List<seq<int>> k:Nat x:real"}, {"22", "y:List<seq<int>> i:seq<int> j:List<seq<int>> k:Nat x:real"}, {"23", "x:List<Row> y:List<seq<int>>"}, {"25", "x:List<Row>"},
		{"31", "v:Row"}, {"33", ""}, {"42", "e:Nat"}, {"43", "e:Nat"}, {"45", "e:Nat"}, {"{ }", "p:Nat g:seq<T> o:Row a:Nat f:int h:seq<int>"}, {"Two(f, h)", "p:Nat g:seq<T> o:Row a:Nat"},
	} {
		node := place(t, p, 0, c.text, 0)
		got, e := Context(p, node)
		var texts []string
		for _, b := range got {
			texts = append(texts, b.Name+":"+b.Sort)
		}
		if strings.Join(texts, " ") != c.want || e != api.OK {
			t.Errorf("Context of %s: %q, %d, want %q", c.text, texts, e, c.want)
		}
		bound, e := tree.Bound(p, node)
		if !slices.EqualFunc(got, bound, func(b api.Bound, name string) bool { return b.Name == name }) || e != api.OK {
			t.Errorf("Context of %s: %v, but bound are %q", c.text, got, bound)
		}
	}
	if got, e := Context(p, 0); len(got) > 0 || e != api.OK {
		t.Errorf("Context(0): %v, %d", got, e)
	}
	for _, node := range []int{-1, len(p), len(p) + 7} {
		if got, e := Context(p, node); len(got) > 0 || e != api.ErrUnknown {
			t.Errorf("Context(%d): %v, %d", node, got, e)
		}
	}
}

// TestTwice is for P8.1: names that have to differ.
func TestTwice(t *testing.T) {
	for s, want := range map[string]api.Errno{
		"const c: int := 1; const c: int := 2;": api.ErrTwice, "function f(): int method f()": api.ErrTwice, "datatype D = D": api.ErrTwice, "datatype D = E | E": api.ErrTwice, "datatype D = E datatype F = E": api.ErrTwice, "class D { } type D = x: int | true witness 1": api.ErrTwice,
		"class T { } function f<T>(): int": api.ErrTwice, "datatype D<D> = E": api.ErrTwice, "datatype D<E> = E": api.ErrTwice, "datatype D = E method m<E>()": api.ErrTwice, "datatype D<T> = E datatype F<T> = G": api.OK, "class A::T { } function f<T>(): int": api.OK,
		"const c: int := 1; function f(c: int): int": api.ErrTwice, "function f(f: int): int": api.ErrTwice, "function f(ghost f: int): int": api.ErrTwice, "method m() returns (f: int) function f(): int": api.ErrTwice, "method m(m: int)": api.OK, "method m() returns (m: int)": api.OK,
		"function f(): bool { var f := true; f }": api.ErrTwice, "function f(): bool { forall f: int :: true }": api.ErrTwice, "function f(x: int): int { match x { case f => 1 } }": api.ErrTwice, "method m() { var c: int; } const c: int := 1;": api.ErrTwice, "method m() { ghost var c: int; } const c: int := 1;": api.ErrTwice, "type S = c: int | true witness 1 const c: int := 1;": api.ErrTwice,
		"function f(): bool { (set f: int | true :: f) == {} }": api.ErrTwice, "method m() { forall f: int | true ensures true { } } function f(): int": api.ErrTwice, "function f(x: int): int { var x := x; x }": api.OK, "const A::c: int := 1; function f(c: int): int { c }": api.OK,
		"class C { var f: int; var f: int; }": api.ErrTwice, "class C { var f: int; ghost var f: bool; }": api.ErrTwice, "class C { var f: int; } class D { var f: bool; }": api.OK, "datatype D = E(f: int, f: int)": api.ErrTwice, "datatype D = E(f: int) | F(f: int)": api.OK, "datatype D = E(f: int) | F(f: bool)": api.ErrTwice, "datatype D = E(f: int) datatype G = F(f: bool)": api.OK, "datatype D = E(f: int) | F(g: bool) | G(f: seq<int>, g: bool)": api.ErrTwice,
		"type S = x: int | true witness 1 datatype D = E(f: S) | F(f: int)": api.ErrTwice, "datatype D<T> = E(f: List2<T,int>) | F(f: List2<T,int>) datatype List2<A, B> = N": api.OK, "const f: int := 1; class C { var f: int; }": api.OK, "const c: int := c2; const c: int := 1;": api.ErrTwice,
		"datatype D<T, T> = E": api.OK, "method m<T, T>()": api.OK, "datatype D<T, T> = E(x: int)": api.ErrTwice, "function f<T, T>(): int": api.ErrTwice,
	} {
		p := programOf(t, s)
		node, e := errnos(t, p)
		if strings.HasPrefix(s, "datatype D<T, T> = E(x") || strings.HasPrefix(s, "function f<T, T>") {
			// the error of types.Check for two type parameters of one name, at the first type
			if node != first(t, p, api.TInt, "") || e != api.ErrTwice {
				t.Errorf("%q: %d, %d", s, node, e)
			}
			continue
		}
		if node != 0 || e != want {
			t.Errorf("%q: %d, %d, want %d", s, node, e, want)
		}
	}
}

// TestNoPrograms is for P8.1 and P8.3: trees that are no flat programs.
func TestNoPrograms(t *testing.T) {
	for i, c := range []struct {
		tree api.Tree
		want api.Errno
	}{
		{nil, api.ErrEmpty}, {api.Tree{{Op: api.EVar, Text: "x"}, {Op: api.EVar, Text: "X"}, {Op: api.EAdd, Kids: []int{0, 1}}}, api.ErrName}, {api.Tree{{Op: api.EVar, Text: "x"}}, api.ErrKind}, {programOf(t, "module A { }"), api.ErrKind}, {programOf(t, "import A;"), api.ErrKind}, {programOf(t, "export; const c: int := 1; const c: int := 2;"), api.ErrKind}, {make(api.Tree, api.MaxNodes+1), api.ErrMany},
	} {
		if node, e := errnos(t, c.tree); node != 0 || e != c.want {
			t.Errorf("%d: %d, %d, want %d", i, node, e, c.want)
		}
	}
	if node, e := errnos(t, programOf(t, "")); node != 0 || e != api.OK {
		t.Errorf("an empty program: %d, %d", node, e)
	}
}

// TestProgramErrors is for P8.1: the first error, with its node, in the order of the declarations and units.
func TestProgramErrors(t *testing.T) {
	start := len(programOf(t, samples)) - 2
	for _, c := range []struct {
		s, at string
		among int
		want  api.Errno
	}{
		// declared types, each declaration's before its units
		{"method m() { print o; var x: Nope; }", "Nope", 0, api.ErrUnknown}, {"method m() { print o; } const c2: Nope := 1;", "o", 0, api.ErrUnknown}, {"const c2: Nope := o;", "Nope", 0, api.ErrUnknown}, {"datatype D = E(f: seq<List<Nope, int>>)", "seq<List<Nope, int>>", 0, api.ErrArgs}, {"class C { var f: U1; }", "U1", 0, api.ErrUnknown}, {"datatype D<T> = E(f: T<int>)", "T<int>", 0, api.ErrArgs}, {"function f(x: List): Nope", "List", 0, api.ErrArgs},
		{"type R1 = r: seq<R1> | o witness 1", "seq<R1>", 0, api.ErrCycle}, {"type R1 = r: R2 | o witness 1 type R2 = r: R1 | o witness 1", "R2", 0, api.ErrCycle}, {"method m(x: R1, y: Nope) type R1 = r: seq<R1> | o witness 1", "R1", 0, api.ErrCycle}, {"method m(c: Cell) { c := new Nope(1); }", "Nope", 0, api.ErrUnknown}, {"method m() { print (1 as Nope); }", "Nope", 0, api.ErrUnknown}, {"function f<T>(x: U): int", "U", 0, api.ErrUnknown}, {"function f(x: int, y: int, z: Nope): int", "Nope", 0, api.ErrUnknown}, {"function f<U1>(x: int): int function g(x: U1): int", "U1", 1, api.ErrUnknown},
		// clauses
		{"function f(): int requires 11 reads o", "11", 0, api.ErrType}, {"function f(): int ensures 11", "11", 0, api.ErrType}, {"function f(): int reads 11", "11", 0, api.ErrType}, {"function f(c: Cell): int reads [c]", "[c]", 0, api.ErrType}, {"function f(c: Cell): int reads {11}", "{11}", 0, api.ErrType}, {"function f(c: Cell): int reads {{c}}", "{{c}}", 0, api.ErrType}, {"function f(): int reads {}", "{}", 0, api.ErrOpen}, {"function f(): int reads [][0]", "[][0]", 0, api.ErrOpen}, {"function f(l: List<int>): int reads l", "l", 0, api.ErrType}, {"method m() modifies {} + {}", "{} + {}", 0, api.ErrOpen}, {"function f<T>(x: T): int reads x", "x", 0, api.ErrType}, {"function f<T>(x: T): int reads {x}", "{x}", 0, api.ErrType},
		{"function f(): int decreases [], o", "o", 0, api.ErrUnknown}, {"function f(): int decreases [], 1", "[]", 0, api.ErrOpen}, {"method m() { while true invariant 11 { } }", "11", 0, api.ErrType}, {"method m() { while 11 invariant o { } }", "11", 0, api.ErrType}, {"method m() { while true modifies 11 { print o; } }", "11", 0, api.ErrType}, {"function f(): int requires o ensures 11", "o", 0, api.ErrUnknown}, {"method m() returns (r: int) requires r == 1", "r", 0, api.ErrUnknown},
		// bodies and values
		{"function f(): int { true }", "true", 0, api.ErrType}, {"function f(): seq<int> { [] + [true] }", "[] + [true]", 0, api.ErrType}, {"function f<T>(x: T): T { 11 }", "11", 0, api.ErrType}, {"function f<T, U>(x: T, y: U): T { y }", "y", 0, api.ErrType}, {"const c2: bool := 11;", "11", 0, api.ErrType}, {"type S = x: int | 11 witness true", "11", 0, api.ErrType}, {"type S = x: int | true witness true", "true", 1, api.ErrType}, {"type S = x: int | true witness x", "x", 0, api.ErrUnknown},
		{"method m() { var x: bool := 11; }", "11", 0, api.ErrType}, {"method m() { ghost var x: bool := 11; }", "11", 0, api.ErrType}, {"method m() { var x: int := x; }", "x", 0, api.ErrUnknown}, {"method m(x: int) { x := true; }", "true", 0, api.ErrType}, {"method m(x: int) { o := true; }", "o", 0, api.ErrUnknown}, {"method m(c: Cell) { c.v := true; }", "true", 0, api.ErrType}, {"method m(c: Cell) { c.o := true; }", "c.o", 0, api.ErrUnknown}, {"method m(a: array<int>) { a[true] := 1; }", "a[true]", 0, api.ErrType}, {"method m(a: array<int>) { a[0] := true; }", "true", 0, api.ErrType}, {"method m() { o := *; }", "o", 0, api.ErrUnknown}, {"method m(x: int) { x.f := *; }", "x.f", 0, api.ErrType},
		// choices
		{"method m() { x :| true; }", "x :| true;", 0, api.ErrUnknown}, {"method m() { limit :| true; }", "limit :| true;", 0, api.ErrUnknown}, {"method m(x: int) { x :| 11; }", "11", 0, api.ErrType}, {"method m() { x :| o; }", "o", 0, api.ErrUnknown}, {"method m() { x :| 11; }", "x :| 11;", 0, api.ErrUnknown}, {"method m() { x :| [] == []; }", "x :| [] == [];", 0, api.ErrUnknown},
		// calls
		{"method m() { call o(); }", "call o();", 0, api.ErrUnknown}, {"method m() { call limit(); }", "call limit();", 0, api.ErrUnknown}, {"method m() { call len(Nil); }", "call len(Nil);", 0, api.ErrUnknown}, {"method m() { call o(o); }", "o", 0, api.ErrUnknown}, {"method m() { o := call p(o); }", "o", 0, api.ErrUnknown}, {"method m() { call m(1); }", "call m(1);", 0, api.ErrArgs}, {"method m() { var x: int; x := call m(); }", "x := call m();", 0, api.ErrArgs}, {"method m() { call n(true); } method n(x: int)", "true", 0, api.ErrType}, {"method m() { call n(1, true); } method n<T>(x: T, y: T)", "true", 0, api.ErrType}, {"method m() { var b: bool; b := call n(); } method n() returns (x: int)", "b", 0, api.ErrType}, {"method m() { var b: bool; b := call n(1); } method n<T>(x: T) returns (y: T)", "b", 0, api.ErrType}, {"method m() { var b: bool; b := call n(true, 1); } method n(x: int, y: int) returns (y2: int)", "true", 0, api.ErrType}, {"method m() { call n(); } method n<T>()", "call n();", 0, api.ErrOpen}, {"method m() { call n([]); } method n<T>(x: T)", "[]", 0, api.ErrOpen},
		// objects
		{"method m() { x := new Cell(1, 2); }", "x := new Cell(1, 2);", 0, api.ErrUnknown}, {"method m() { x := new Cell(o, 2); }", "o", 0, api.ErrUnknown}, {"method m() { x := new Loop(); }", "x := new Loop();", 0, api.ErrUnknown}, {"method m(x: Cell) { x := new Loop(); }", "x := new Loop();", 0, api.ErrKind}, {"method m<T>(x: Cell) { x := new T(); }", "x := new T();", 0, api.ErrKind}, {"method m(x: Cell) { x := new Nat(); }", "x := new Nat();", 0, api.ErrKind}, {"method m(x: Cell) { x := new Cell(1); }", "x := new Cell(1);", 0, api.ErrArgs}, {"method m(x: Cell) { x := new Cell(1, true); }", "true", 0, api.ErrType}, {"method m(x: Node) { x := new Cell(1, 2); }", "x := new Cell(1, 2);", 0, api.ErrType}, {"method m(x: Node) { x := new Cell(1, true); }", "true", 0, api.ErrType}, {"method m(x: Node) { x := new Cell(1, 1 + true); }", "1 + true", 0, api.ErrType}, {"method m(x: Node) { x := new Cell(1, -true); }", "-true", 0, api.ErrType},
		{"method m() { x := new array<int>(1, 2); }", "x := new array<int>(1, 2);", 0, api.ErrUnknown}, {"method m() { x := new array<int>(true, 2); }", "x := new array<int>(true, 2);", 0, api.ErrUnknown}, {"method m(x: array<int>) { x := new array<int>(true, false); }", "true", 0, api.ErrType}, {"method m(x: array<int>) { x := new array<int>(1, false); }", "false", 0, api.ErrType}, {"method m(x: array<bool>) { x := new array<int>(1, 2); }", "x := new array<int>(1, 2);", 0, api.ErrType}, {"method m(x: int) { x := new array<int>(1, []); }", "[]", 0, api.ErrType}, {"method m() { limit := new array<int>(1, 2); }", "limit := new array<int>(1, 2);", 0, api.ErrUnknown},
		// branches and loops
		{"method m() { if 11 { print o; } }", "11", 0, api.ErrType}, {"method m() { if true { print o; } else { print p; } }", "o", 0, api.ErrUnknown}, {"method m() { if true { } else if 11 { } }", "11", 0, api.ErrType}, {"method m() { if { case true => { } case 11 => { print o; } } }", "11", 0, api.ErrType}, {"method m() { { { print o; } } }", "o", 0, api.ErrUnknown}, {"method m() { assert 11 by { print o; } }", "11", 0, api.ErrType}, {"method m() { assert true by { print o; } }", "o", 0, api.ErrUnknown}, {"method m() { assume 11; }", "11", 0, api.ErrType}, {"method m() { print []; }", "[]", 0, api.ErrOpen}, {"method m() { { var x: int; } print x; }", "x", 0, api.ErrUnknown},
		// matches
		{"method m(s: seq<int>) { match s { case x => { print o; } } }", "s", 0, api.ErrType}, {"method m() { match 1.5 { case x => { } } }", "1.5", 0, api.ErrType}, {"method m(c: Cell) { match c { case x => { } } }", "c", 0, api.ErrType}, {"method m<T>(x: T) { match x { case y => { } } }", "x", 0, api.ErrType}, {"method m() { match [][0] { case x => { } } }", "[][0]", 0, api.ErrOpen}, {"method m() { match Nil { case x => { } } }", "Nil", 0, api.ErrOpen}, {"method m(x: int) { match x { case Nil => { } } }", "Nil", 0, api.ErrType}, {"method m(l: List<int>) { match l { case Nope => { } } }", "Nope", 0, api.ErrUnknown}, {"method m(l: List<int>) { match l { case Cons(x) => { } } }", "Cons(x)", 0, api.ErrArgs}, {"method m(l: List<int>) { match l { case Cons(true, _) => { print o; } } }", "true", 1, api.ErrType},
		{"method m(l: List<int>) { match l { case Nil => { print o; } case Nope => { } } }", "o", 0, api.ErrUnknown}, {"method m(l: List<int>) { match l { case Nope => { print o; } case Nil => { } } }", "Nope", 0, api.ErrUnknown}, {"method m(l: List<int>) { match l { case Cons(x, _) => { } case _ => { print x; } } }", "x", 1, api.ErrUnknown},
		// calculations
		{"method m() { calc { 11; == true; } }", "true", 0, api.ErrType}, {"method m() { calc { 11; ==> true; } }", "11", 0, api.ErrType}, {"method m() { calc { true; ==> 11; } }", "11", 0, api.ErrType}, {"method m() { calc { true; == 11; ==> true; } }", "11", 0, api.ErrType}, {"method m() { calc { true; <= false; } }", "true", 0, api.ErrType}, {"method m() { calc { 1.5; < 2.5; } }", "1.5", 0, api.ErrType}, {"method m() { calc { 11; <= 12; ==> 13; } }", "11", 0, api.ErrType}, {"method m() { calc { []; == []; } }", "[]", 0, api.ErrOpen}, {"method m() { calc { 11; == { print o; } true; } }", "true", 0, api.ErrType}, {"method m() { calc { 11; == { print o; } 12; } }", "o", 0, api.ErrUnknown}, {"method m() { calc { 11; == { print o; } p; } }", "p", 0, api.ErrUnknown}, {"method m() { calc { 11; } }", "", 0, api.OK}, {"method m() { calc { [] == []; } }", "[]", 0, api.ErrOpen},
		// quantified statements
		{"method m() { forall x: int | 11 ensures o { } }", "11", 0, api.ErrType}, {"method m() { forall x: int | true ensures 11 { print o; } }", "11", 0, api.ErrType}, {"method m() { forall x: int | true ensures true { print o; } }", "o", 0, api.ErrUnknown}, {"method m() { forall x: int | [] == [] ensures o { } }", "[]", 0, api.ErrOpen},
		// demands come behind the nodes and before the heads, and before what is open
		{"function f(): int { -true == true }", "-true == true", 0, api.ErrType}, {"function f(): bool { -true == true }", "-true", 0, api.ErrType}, {"function f(): int { [] == [] }", "[] == []", 0, api.ErrType}, {"function f(): bool { [] == [] }", "[]", 0, api.ErrOpen}, {"method m(x: bool) { x := -true == -1; }", "-true == -1", 0, api.ErrType}, {"method m(a: array<int>) { a[-true] := 1; }", "a[-true]", 0, api.ErrType}, {"method m(a: array<int>, l: List<bool>) { a[if -l.head then 1 else 2] := true; }", "true", 0, api.ErrType}, {"method m(a: array<int>, l: List<bool>) { a[if -l.head then 1 else 2] := 1; }", "-l.head", 0, api.ErrType},
		// reveal has no error
		{"method m() { reveal o; return; }", "", 0, api.OK},
	} {
		p := programOf(t, samples+c.s)
		at := 0
		if c.at != "" {
			at = place(t, p, start, c.at, c.among)
		}
		if node, e := errnos(t, p); node != at || e != c.want {
			t.Errorf("%q: %d (%s), %d, want %d, %d", c.s, node, shown(p, node), e, at, c.want)
		}
	}
}

// TestLaterTypes is for P1 and P8.1: types of later declarations that are not well-formed, met before they are reached.
func TestLaterTypes(t *testing.T) {
	for _, s := range []string{
		"function f(): int { g(1) } function g(x: Nope): int", "function f(): int { g(1) } function g(x: List2): int datatype List2<T> = N2", "function f(d: int): int { g().f } function g(): D2 datatype D2<T> = E2(f: T)", "function f(d: int): int { g().f } function g(): C2<int> class C2 { var f: int; }", "function f(): int { g(1) } function g(x: R): int type R = r: seq<R> | true witness []", "function f(): R { g() } function g(): R type R = r: seq<R> | true witness []",
		"method m() { var x: int; x := call n(); } method n() returns (y: Nope)", "method m() { match E2(1) { case E2(x) => { } } } datatype D2 = E2(x: R) type R = r: seq<R> | true witness []", "const c: int := d; const d: R := 1; type R = r: seq<R> | true witness []", "function f(x: int): int { match g() { case E2(y) => y } } function g(): D2<int, int> datatype D2<T> = E2(x: T)",
	} {
		if _, e := errnos(t, programOf(t, s)); e == api.OK {
			t.Errorf("%q has no error", s)
		}
	}
}

// TestWrongMember is for P8.1: a member of a type with a wrong number of arguments, which a later declaration has.
func TestWrongMember(t *testing.T) {
	for _, s := range []string{"function f(d: int): int { g().f } function g(): D2 datatype D2<T> = E2(f: T)", "function f(d: int): int { g().f } function g(): C2<int> class C2 { var f: int; }"} {
		s = strings.Replace(s, "f(d: int)", "k(d: int)", 1)
		p := programOf(t, s)
		if node, e := errnos(t, p); node != place(t, p, 0, "g().f", 0) || e != api.ErrArgs {
			t.Errorf("%q: %d, %d", s, node, e)
		}
	}
}

// TestWitnesses is for P8.1 and P8.4: the types that are found are well-formed and their own bases.
func TestWitnesses(t *testing.T) {
	p := programOf(t, samples+body)
	got, _, e := Types(p)
	if e != api.OK {
		t.Fatalf("Types: %d", e)
	}
	for i, typ := range got {
		if typ == "" {
			continue
		}
		if e := types.Check(p, typ, []string{"T"}); e != api.OK {
			t.Errorf("the type %q of %s: %d", typ, shown(p, i), e)
		}
		if base, e := types.Base(p, typ); base != typ || e != api.OK {
			t.Errorf("the type %q of %s has the base %q, %d", typ, shown(p, i), base, e)
		}
	}
	if _, _, e := parse.Program(samples); e != api.OK {
		t.Errorf("Program: %d", e)
	}
}

// TestExamples is for P8.1 to P8.3: the examples of the document.
func TestExamples(t *testing.T) {
	const program = `datatype List<T> = Nil | Cons(head: T, tail: List<T>) type Nat = x: int | 0 <= x witness 0 class Cell { var v: int; ghost var old_v: Nat; } datatype Loop = More(rest: Loop)
		function len<T>(l: List<T>): Nat { match l { case Nil => 0 case Cons(x, r) => 1 + len(r) } }
		method m(c: Cell) returns (n: int) modifies c { c.v := len(Cons(1, Nil)); n := c.v; }`
	p := programOf(t, program)
	found, _, e := Types(p)
	call := place(t, p, 0, "len(Cons(1, Nil))", 0)
	if e != api.OK || found[call] != "int" || found[call-2] != "List<int>" || shown(p, call-2) != "Nil" {
		t.Errorf("Types: %q, %d", found, e)
	}
	instances, _, e := Instances(p)
	var texts []string
	for _, i := range instances[max(len(instances)-3, 0):] {
		texts = append(texts, shown(p, i.Node)+" with "+strings.Join(i.Args, ","))
	}
	if got := strings.Join(texts, ", "); got != "Nil with int, Cons(1, Nil) with int, len(Cons(1, Nil)) with int" || e != api.OK {
		t.Errorf("Instances: %s, %d", got, e)
	}
	flows, _, e := Flows(p)
	if e != api.OK || len(flows) != 2 || flows[0] != (Flow{place(t, p, 0, "0", 1), "Nat"}) || p[flows[1].Node].Op != api.EMatch || flows[1].Type != "Nat" {
		t.Errorf("Flows: %v, %d", flows, e)
	}
	for s, want := range map[string]struct {
		at    string
		errno api.Errno
	}{
		"method k() { var s: seq<int> := [] + []; }": {"", api.OK}, "method k() { print #([] + []); }": {"[]", api.ErrOpen}, "method k() { print 1 + 1.0; }": {"1 + 1.0", api.ErrType}, "method k(x: int) { print x in 3; }": {"x in 3", api.ErrType}, "method k() { assert Nil == Nil; }": {"Nil", api.ErrOpen},
	} {
		q := programOf(t, program+s)
		at := 0
		if want.at != "" {
			at = place(t, q, len(p)-2, want.at, 0)
		}
		if node, e := errnos(t, q); node != at || e != want.errno {
			t.Errorf("%q: %d, %d, want %d, %d", s, node, e, at, want.errno)
		}
	}
}
