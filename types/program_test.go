package types

import (
	"slices"
	"strconv"
	"strings"
	"testing"

	"entail/api"
)

// TestDecl is for P5.2: the first declaration of a name, by node.
func TestDecl(t *testing.T) {
	p := programOf(t, samples)
	for name, op := range map[string]int{
		"List": api.DDatatype, "Nil": api.DCons, "Cons": api.DCons, "Nat": api.DSubset, "Cell": api.DClass, "limit": api.DConst, "f": api.DFunction, "M::m": api.DMethod, "n": api.DMethod, "M::D": api.DDatatype, "M::F": api.DCons,
		"Same": api.DCons, "Twice": api.DClass, "Thrice": api.DCons,
	} {
		node, e := Decl(p, name)
		if e != api.OK || p[node].Text != name || p[node].Op != op || node != slices.IndexFunc(p, func(n api.Node) bool { return n.Text == name && n.Op == op }) {
			t.Errorf("Decl(%q): %d, %d", name, node, e)
		}
	}
	for _, name := range []string{"", "T", "head", "v", "x", "D", "M::List", "nil", "list", "M", "ghost", "int", "y"} {
		if node, e := Decl(p, name); node != 0 || e != api.ErrUnknown {
			t.Errorf("Decl(%q): %d, %d", name, node, e)
		}
	}
}

// TestPrograms is for P5.2 and P5.3: trees that are no flat programs, whose errors come before all others.
func TestPrograms(t *testing.T) {
	for name, c := range badTrees(t) {
		for _, f := range calls() {
			if e := f.call(c.tree, "no type"); e != c.want {
				t.Errorf("%s of %s: %d, want %d", f.name, name, e, c.want)
			}
		}
		if node, e := Decl(c.tree, ""); node != 0 || e != c.want {
			t.Errorf("Decl of %s: %d, %d, want %d", name, node, e, c.want)
		}
		if s, e := Signature(c.tree, ""); s.Name != "" || len(s.Params) > 0 || e != c.want {
			t.Errorf("Signature of %s: %v, %d, want %d", name, s, e, c.want)
		}
	}
	empty := programOf(t, "")
	if e := Check(empty, "seq<int>", nil); e != api.OK {
		t.Errorf("Check in an empty program: %d", e)
	}
	if _, e := Decl(empty, "x"); e != api.ErrUnknown {
		t.Errorf("Decl in an empty program: %d", e)
	}
}

// TestCheck is for P5.2: types from the outside to the inside, and from left to right.
func TestCheck(t *testing.T) {
	p := programOf(t, samples)
	for s, want := range map[string]api.Errno{
		"int": api.OK, "bv64": api.OK, "map<bool,array<real>>": api.OK, "List<int>": api.OK, "List<List<Nat>>": api.OK, "Nat": api.OK, "Cell": api.OK, "Loop": api.OK, "M::D<T,List<T>>": api.OK, "T": api.OK, "Round": api.OK, "Twice": api.OK, "List<Nope<T>>": api.ErrUnknown,
		"List": api.ErrArgs, "List<int,int>": api.ErrArgs, "Nat<int>": api.ErrArgs, "Cell<int>": api.ErrArgs, "Loop<T>": api.ErrArgs, "T<int>": api.ErrArgs, "M::D<int>": api.ErrArgs,
		"Tree": api.ErrUnknown, "Tree<List>": api.ErrUnknown, "U": api.ErrUnknown, "D<int,int>": api.ErrUnknown, "M::T": api.ErrUnknown, "Nil": api.ErrUnknown, "Red": api.ErrUnknown, "Same": api.ErrUnknown, "Thrice": api.ErrUnknown,
		"map<List,Tree>": api.ErrArgs, "map<Tree,List>": api.ErrUnknown, "List<Tree,List>": api.ErrArgs, "Pair<List,Tree>": api.ErrArgs, "seq<Pair<Tree,List>>": api.ErrUnknown, "Pair<seq<List<List>>,Tree>": api.ErrArgs,
	} {
		if e := Check(p, s, []string{"T"}); e != want {
			t.Errorf("Check(%q): %d, want %d", s, e, want)
		}
	}
	for i, c := range []struct {
		s    string
		vars []string
		want api.Errno
	}{
		{"List", []string{"List"}, api.OK},
		{"List<List>", []string{"List"}, api.OK},
		{"Nil", []string{"Nil"}, api.OK},
		{"T", nil, api.ErrUnknown},
		{"int", []string{"T", "x"}, api.ErrName},
		{"int", []string{"T", "T", "x"}, api.ErrTwice},
		{"Tree", []string{"x", "T", "T"}, api.ErrName},
		{"int", []string{"M::T"}, api.ErrName},
		{"tree", []string{"x"}, api.ErrSyntax},
	} {
		if e := Check(p, c.s, c.vars); e != c.want {
			t.Errorf("%d: Check(%q, %q): %d, want %d", i, c.s, c.vars, e, c.want)
		}
	}
	var vars []string
	for i := range 101 {
		vars = append(vars, "T"+strconv.Itoa(i))
	}
	if e, f := Check(p, "T99", vars[:100]), Check(p, "Tree", vars); e != api.OK || f != api.ErrMany {
		t.Errorf("Check with many variables: %d, %d", e, f)
	}
}

// TestBase is for P5.2: subset types are replaced, in arguments, too.
func TestBase(t *testing.T) {
	p := programOf(t, samples)
	for s, want := range map[string]string{
		"int": "int", "Nat": "int", "Big": "int", "Row": "seq<int>", "map<int,seq<Nat>>": "map<int,seq<int>>", "List<Row>": "List<seq<int>>", "Pair<Big,List<Nat>>": "Pair<int,List<int>>", "Cell": "Cell", "array<Nat>": "array<int>",
		"T": "T", "Tree<Nat,M::X>": "Tree<int,M::X>", "List": "List", "M::Nat": "M::Nat", "Nil": "Nil",
	} {
		if got, e := Base(p, s); got != want || e != api.OK {
			t.Errorf("Base(%q): %q, %d, want %q", s, got, e, want)
		}
	}
	for _, s := range []string{"Round", "seq<Round>", "Ping", "Pong", "Pair<int,Ping>", "Tree<Nat,Round>"} {
		if got, e := Base(p, s); got != "" || e != api.ErrCycle {
			t.Errorf("Base(%q): %q, %d", s, got, e)
		}
	}
}

// doubling returns subset types, each a pair of the one before, the first one of a type.
func doubling(n int, first string) string {
	out := "type A0 = x: " + first + " | true witness x "
	for i := 1; i <= n; i++ {
		before := "A" + strconv.Itoa(i-1)
		out += "type A" + strconv.Itoa(i) + " = x: map<" + before + "," + before + "> | true witness x "
	}
	return out
}

// TestLongBases is for P5.2: bases that are too long or nested too deep, behind those that are cyclic.
func TestLongBases(t *testing.T) {
	p := programOf(t, doubling(40, "int")+"type C = x: seq<C> | true witness x type L = x: D<"+strings.Repeat("int,", 101)+"int> | true witness x type K = x: L | true witness x "+
		"type S29 = x: "+nested(29, "int")+" | true witness x type S30 = x: "+nested(30, "int")+" | true witness x")
	for s, want := range map[string]api.Errno{
		"A0": api.OK, "A5": api.OK, "A6": api.ErrLong, "A40": api.ErrLong, "map<A6,C>": api.ErrCycle, "map<A40,C>": api.ErrCycle, "map<A5,A5>": api.ErrLong, "map<A5,int>": api.OK,
		"L": api.ErrLong, "K": api.ErrLong, nested(30, "S29"): api.OK, nested(29, "S30"): api.OK, nested(30, "S30"): api.ErrLong, "S30": api.OK,
	} {
		got, e := Base(p, s)
		if e != want || e != api.OK && got != "" {
			t.Errorf("Base(%.40q): %q, %d, want %d", s, got, e, want)
		}
	}
	if got, _ := Base(p, "A2"); got != "map<map<int,int>,map<int,int>>" {
		t.Errorf("Base(A2): %q", got)
	}
}

// TestFields is for P5.2: the fields of classes.
func TestFields(t *testing.T) {
	p := programOf(t, samples+"class None { } class Long { var f: D<"+strings.Repeat("int,", 101)+"int>; }")
	l, e := Fields(p, "Cell")
	if want := []Field{{"v", "int", false}, {"old_v", "Nat", true}}; !slices.Equal(l, want) || e != api.OK {
		t.Errorf("Fields(Cell): %v, %d", l, e)
	}
	if l, e := Fields(p, "None"); len(l) > 0 || e != api.OK {
		t.Errorf("Fields(None): %v, %d", l, e)
	}
	if l, e := Fields(p, "Twice"); len(l) != 1 || e != api.OK {
		t.Errorf("Fields(Twice): %v, %d", l, e)
	}
	if l, e := Fields(p, "Long"); len(l) != 1 || len(l[0].Type) != 410 || e != api.OK {
		t.Errorf("Fields(Long): %v, %d", l, e)
	}
	for s, want := range map[string]api.Errno{"Tree": api.ErrUnknown, "int": api.ErrUnknown, "seq<Cell>": api.ErrUnknown, "Nil": api.ErrUnknown, "Same": api.ErrUnknown, "List<int>": api.ErrKind, "Nat": api.ErrKind, "T": api.ErrUnknown} {
		if l, e := Fields(p, s); len(l) > 0 || e != want {
			t.Errorf("Fields(%q): %v, %d, want %d", s, l, e, want)
		}
	}
}

// TestMember is for P5.2: fields of classes, and destructors of instances, also of subset types of them.
func TestMember(t *testing.T) {
	p := programOf(t, samples+"type Numbers = l: List<Nat> | true witness Nil datatype Both = P(f: int, g: bool) | Q(g: real, h: int) type Box = c: Cell | true witness c type Crate = c: Cell<int> | true witness c type Crates = c: Crate | true witness c "+
		"datatype Deep<T> = Flat(a: int) | Full(b: map<T,map<T,T>>)")
	for _, c := range []struct {
		s, name, want string
		ghost         bool
	}{
		{"Cell", "v", "int", false},
		{"Cell", "old_v", "Nat", true},
		{"Box", "old_v", "Nat", true},
		{"List<int>", "head", "int", false},
		{"List<int>", "tail", "List<int>", false},
		{"List<Nat>", "head", "int", false},
		{"Numbers", "tail", "List<int>", false},
		{"List<T>", "head", "T", false},
		{"M::D<int,bool>", "f", "map<int,seq<bool>>", false},
		{"M::D<int,bool>", "g", "M::D<bool,int>", false},
		{"M::D<int,bool>", "h", "int", false},
		{"Both", "g", "bool", false},
		{"Both", "h", "int", false},
		{"Deep<int>", "a", "int", false},
	} {
		got, ghost, e := Member(p, c.s, c.name)
		if got != c.want || ghost != c.ghost || e != api.OK {
			t.Errorf("Member(%q, %q): %q, %v, %d, want %q", c.s, c.name, got, ghost, e, c.want)
		}
	}
	for i, c := range []struct {
		s, name string
		want    api.Errno
	}{
		{"Cell", "w", api.ErrUnknown}, {"Cell", "", api.ErrUnknown}, {"List<int>", "x", api.ErrUnknown}, {"Color", "head", api.ErrUnknown}, {"List<int>", "Nil", api.ErrUnknown},
		{"int", "v", api.ErrKind}, {"seq<Cell>", "v", api.ErrKind}, {"Nat", "v", api.ErrKind}, {"Tree", "v", api.ErrKind}, {"T", "v", api.ErrKind}, {"Nil", "head", api.ErrKind}, {"array<int>", "v", api.ErrKind},
		{"List", "head", api.ErrArgs}, {"List<int,int>", "x", api.ErrArgs}, {"Round", "v", api.ErrCycle}, {"List<Ping>", "head", api.ErrCycle},
		{"Deep<" + wide(200) + ">", "a", api.ErrLong},
		{"Cell<int>", "v", api.ErrArgs}, {"Cell<int>", "old_v", api.ErrArgs}, {"Cell<int>", "w", api.ErrArgs}, {"Cell<T,T>", "v", api.ErrArgs}, {"Twice<Cell>", "a", api.ErrArgs}, {"Crate", "v", api.ErrArgs}, {"Crate", "w", api.ErrArgs}, {"Crates", "v", api.ErrArgs},
		{"Cell<Round>", "v", api.ErrCycle}, {"seq<Cell<int>>", "v", api.ErrKind},
	} {
		if got, ghost, e := Member(p, c.s, c.name); got != "" || ghost || e != c.want {
			t.Errorf("%d: Member(%.40q, %q): %q, %v, %d, want %d", i, c.s, c.name, got, ghost, e, c.want)
		}
	}
}

// TestSignature is for P5.2: functions and methods.
func TestSignature(t *testing.T) {
	p := programOf(t, samples)
	f, e := Signature(p, "f")
	if e != api.OK || f.Name != "f" || f.Method || !slices.Equal(f.Marks, []string{"ghost", "fuel 2"}) || !slices.Equal(f.Vars, []string{"S", "T"}) ||
		!slices.Equal(f.Params, []api.Bound{{Name: "l", Sort: "List<T>"}, {Name: "n", Sort: "Nat"}}) || !slices.Equal(f.Ghosts, []bool{false, true}) || !slices.Equal(f.Results, []api.Bound{{Sort: "M::D<S,T>"}}) {
		t.Errorf("Signature(f): %v, %d", f, e)
	}
	m, e := Signature(p, "M::m")
	if e != api.OK || m.Name != "M::m" || !m.Method || len(m.Marks) > 0 || len(m.Vars) > 0 || !slices.Equal(m.Params, []api.Bound{{Name: "x", Sort: "int"}}) || !slices.Equal(m.Ghosts, []bool{false}) ||
		!slices.Equal(m.Results, []api.Bound{{Name: "y", Sort: "int"}, {Name: "z", Sort: "seq<bool>"}}) {
		t.Errorf("Signature(M::m): %v, %d", m, e)
	}
	n, e := Signature(p, "n")
	if e != api.OK || !n.Method || !slices.Equal(n.Marks, []string{"lemma"}) || len(n.Params) > 0 || len(n.Ghosts) > 0 || len(n.Results) > 0 {
		t.Errorf("Signature(n): %v, %d", n, e)
	}
	for name, want := range map[string]api.Errno{"limit": api.ErrKind, "List": api.ErrKind, "Nil": api.ErrKind, "Nat": api.ErrKind, "Cell": api.ErrKind, "": api.ErrUnknown, "m": api.ErrUnknown, "M::f": api.ErrUnknown, "x": api.ErrUnknown} {
		c, e := Signature(p, name)
		if e != want || c.Name != "" || c.Method || len(c.Results) > 0 {
			t.Errorf("Signature(%q): %v, %d, want %d", name, c, e, want)
		}
	}
}

// showCons returns constructors as text.
func showCons(l []api.Cons) string {
	var out []string
	for _, c := range l {
		var fields []string
		for _, f := range c.Fields {
			fields = append(fields, f.Name+": "+f.Sort)
		}
		out = append(out, c.Name+"("+strings.Join(fields, ", ")+")")
	}
	return strings.Join(out, " ")
}

// TestConstructors is for P5.3: instances, whose parameters are replaced all at once.
func TestConstructors(t *testing.T) {
	p := programOf(t, samples+"datatype Deep<T> = Flat(a: int) | Full(b: map<T,map<T,T>>) datatype Far = Long(f: D<"+strings.Repeat("int,", 101)+"int>) datatype Down<T> = Into(f: "+nested(40, "T")+")")
	for s, want := range map[string]string{
		"List<Nat>":                       "Nil() Cons(head: Nat, tail: List<Nat>)",
		"Color":                           "Red() Green()",
		"Loop":                            "More(rest: Loop)",
		"M::D<int,seq<S>>":                "M::E(f: map<int,seq<seq<S>>>, g: M::D<seq<S>,int>) M::F(g: bool, h: int)",
		"M::D<T,S>":                       "M::E(f: map<T,seq<S>>, g: M::D<S,T>) M::F(g: bool, h: T)",
		"Pair<Tree,Tree<int>>":            "Two(fst: Tree, snd: Tree<int>)",
		"Deep<" + wide(124) + ">":         "Flat(a: int) Full(b: map<" + wide(124) + ",map<" + wide(124) + "," + wide(124) + ">>)",
		"Down<" + nested(19, "int") + ">": "Into(f: " + nested(59, "int") + ")",
	} {
		l, e := Constructors(p, s)
		if got := showCons(l); got != want || e != api.OK {
			t.Errorf("Constructors(%.40q): %s, %d, want %s", s, got, e, want)
		}
	}
	for s, want := range map[string]api.Errno{
		"int": api.ErrUnknown, "seq<int>": api.ErrUnknown, "Tree": api.ErrUnknown, "Nil": api.ErrUnknown, "Same": api.ErrUnknown, "T": api.ErrUnknown, "Cell": api.ErrKind, "Nat": api.ErrKind, "Nat<int>": api.ErrKind, "Twice": api.ErrKind, "List": api.ErrArgs, "List<int,int>": api.ErrArgs, "Color<int>": api.ErrArgs,
		"Deep<" + wide(130) + ">": api.ErrLong, "Far": api.ErrLong, "Far<int>": api.ErrArgs, "Down<" + nested(20, "int") + ">": api.ErrLong,
	} {
		if l, e := Constructors(p, s); len(l) > 0 || e != want {
			t.Errorf("Constructors(%.40q): %s, %d, want %d", s, showCons(l), e, want)
		}
	}
}
