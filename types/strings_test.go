package types

import (
	"math/rand"
	"slices"
	"strconv"
	"strings"
	"testing"

	"entail/api"
	"entail/parse"
	"entail/tree"
)

// nested returns a type in sequences.
func nested(n int, inner string) string {
	return strings.Repeat("seq<", n) + inner + strings.Repeat(">", n)
}

// wide returns a type of just so many bytes: a name with arguments of one letter, but the last one.
func wide(size int) string {
	s := "D<Z" + strings.Repeat(",Z", (size-4)/2-4)
	return s + "," + strings.Repeat("Y", size-len(s)-2) + ">"
}

// TestTypeStrings is for P5.1: strings of all types, and their trees, heads and arguments.
func TestTypeStrings(t *testing.T) {
	for s, want := range map[string][]string{
		"bool": {"bool"}, "int": {"int"}, "real": {"real"}, "bv1": {"bv1"}, "bv64": {"bv64"},
		"seq<int>": {"seq", "int"}, "set<bool>": {"set", "bool"}, "multiset<real>": {"multiset", "real"}, "array<bv8>": {"array", "bv8"},
		"map<int,seq<Nat>>": {"map", "int", "seq<Nat>"}, "map<map<int,A>,map<B,C>>": {"map", "map<int,A>", "map<B,C>"},
		"T": {"T"}, "M::D": {"M::D"}, "M::D<A,M::B<C,D>,E>": {"M::D", "A", "M::B<C,D>", "E"}, "X_1<Y2>": {"X_1", "Y2"},
		nested(59, "int"): {"seq", nested(58, "int")}, wide(400): nil,
		"Abcdefghijklmnopqrstuvwx::Abcdefghijklmnopqrstuvwx": {"Abcdefghijklmnopqrstuvwx::Abcdefghijklmnopqrstuvwx"},
	} {
		head, args, e := Parts(s)
		if e != api.OK || want != nil && !slices.Equal(append([]string{head}, args...), want) {
			t.Errorf("Parts(%q): %q, %q, %d", s, head, args, e)
		}
		tr, e := Tree(s)
		if e != api.OK {
			t.Errorf("Tree(%q): %d", s, e)
			continue
		}
		parsed, _, _ := parse.Type(s)
		if !tree.Same(tr, parsed) || slices.ContainsFunc(tr, func(n api.Node) bool { return n.At != 0 }) {
			t.Errorf("Tree(%q): %v, want %v", s, tr, parsed)
		}
		if back, e := Of(tr, len(tr)-1); back != s || e != api.OK {
			t.Errorf("Of the tree of %q: %q, %d", s, back, e)
		}
	}
}

// TestNoTypes is for P5.1: what is no type string.
func TestNoTypes(t *testing.T) {
	bad := map[string]api.Errno{nested(100, "int"): api.ErrLong, wide(401): api.ErrLong, strings.Repeat("<", 401): api.ErrLong, nested(60, "int"): api.ErrSyntax, nested(60, "T"): api.ErrSyntax}
	for _, s := range []string{
		"", " ", "seq", "set", "map", "array", "multiset", "seq<", "seq<>", "seq<int", "seq<int>>", "seq<int>x", "seq<int><int>", "seq<int,int>", "map<int>", "map<int,int,int>", "map<,>", "map<int,>", "int<int>", "bool<T>", "bv", "bv0", "bv65", "bv08", "bv-1", "bv8<int>", "bv8x",
		"t", "m::T", "M::t", "M::N::T", "M::", "::T", "T<>", "T<,A>", "T<A,>", "T<A", "T>", "T,A", "<T>", "T<A>B", "T<A>,B", "T<A><B>", ">", ",", "<", "T<<A>>", "T <A>", "T< A>", "T<A, B>", "T<a>", "int ", "1", "if", "seq<seq>", "Seq<seq>", "Abcdefghijklmnopqrstuvwxy", "É", "T<\xff>", "\ufffd", "T?", "T.A", "(T)",
	} {
		bad[s] = api.ErrSyntax
	}
	for s, want := range bad {
		if tr, e := Tree(s); len(tr) > 0 || e != want {
			t.Errorf("Tree(%.40q): %v, %d, want %d", s, tr, e, want)
		}
		if head, args, e := Parts(s); head != "" || len(args) > 0 || e != want {
			t.Errorf("Parts(%.40q): %q, %q, %d, want %d", s, head, args, e, want)
		}
		if out, e := Subst(s, []Binding{{"a", "b"}}); out != "" || e != want {
			t.Errorf("Subst(%.40q): %q, %d, want %d", s, out, e, want)
		}
		if l, is, e := Unify(s, "b", []string{"a"}); len(l) > 0 || is || e != want {
			t.Errorf("Unify(%.40q): %v, %v, %d, want %d", s, l, is, e, want)
		}
		if l, is, e := Unify("T", s, []string{"a"}); len(l) > 0 || is || e != want {
			t.Errorf("Unify(T, %.40q): %v, %v, %d, want %d", s, l, is, e, want)
		}
		if typ, ghost, e := Member(programOf(t, samples), s, "v"); typ != "" || ghost || e != want {
			t.Errorf("Member(%.40q): %q, %v, %d, want %d", s, typ, ghost, e, want)
		}
		for _, c := range calls() {
			if e := c.call(programOf(t, samples), s); e != want {
				t.Errorf("%s(%.40q): %d, want %d", c.name, s, e, want)
			}
		}
	}
}

// TestOf is for P5.1: types at nodes of programs, of any length, and nodes that are none.
func TestOf(t *testing.T) {
	p, _, e := parse.Program("function f(x: seq<map<int, M::D<T>>>): bv8 { x }")
	if e != api.OK {
		t.Fatal(e)
	}
	want := map[int]string{0: "int", 1: "T", 2: "M::D<T>", 3: "map<int,M::D<T>>", 4: "seq<map<int,M::D<T>>>", 6: "bv8"}
	for node := -2; node < len(p)+2; node++ {
		s, e := Of(p, node)
		_, isType := want[node]
		switch {
		case isType && (s != want[node] || e != api.OK),
			!isType && (node < 0 || node >= len(p)) && (s != "" || e != api.ErrUnknown),
			!isType && node >= 0 && node < len(p) && (s != "" || e != api.ErrKind):
			t.Errorf("Of node %d: %q, %d", node, s, e)
		}
	}
	for name, c := range badTrees(t) {
		if c.want == api.ErrKind {
			continue // any tree may be asked
		}
		if s, e := Of(c.tree, 99); s != "" || e != c.want {
			t.Errorf("Of %s: %q, %d, want %d", name, s, e, c.want)
		}
	}
	long := "Abcdefghijklmnopqrstuvwx" + strings.Repeat(",Abcdefghijklmnopqrstuvwx", 40)
	parsed, _, _ := parse.Type("D<" + long + ">")
	if s, e := Of(parsed, len(parsed)-1); s != "D<"+long+">" || e != api.OK {
		t.Errorf("Of a long type: %q, %d", s, e)
	}
}

// TestSubst is for P5.1: variables are replaced all at once.
func TestSubst(t *testing.T) {
	l := []Binding{{"A", "B"}, {"B", "seq<A>"}, {"C", "C"}, {"D", "int"}, {"Nat", "bool"}}
	for s, want := range map[string]string{
		"A": "B", "B": "seq<A>", "map<A,B>": "map<B,seq<A>>", "C": "C", "D<D>": "D<int>", "D<A,D<B>>": "D<B,D<seq<A>>>", "M::A": "M::A", "M::A<A>": "M::A<B>", "E": "E", "int": "int", "Nat": "bool", "A<C>": "A<C>", "seq<array<set<multiset<D>>>>": "seq<array<set<multiset<int>>>>",
	} {
		if got, e := Subst(s, l); got != want || e != api.OK {
			t.Errorf("Subst(%q): %q, %d, want %q", s, got, e, want)
		}
	}
	if got, e := Subst("A", nil); got != "A" || e != api.OK {
		t.Errorf("Subst without bindings: %q, %d", got, e)
	}
}

// many returns a list of different bindings.
func many(n int) []Binding {
	var out []Binding
	for i := range n {
		out = append(out, Binding{"V" + strconv.Itoa(i), "int"})
	}
	return out
}

// TestSubstErrors is for P5.1: the first binding with an error, and results that are too long or nested too deep.
func TestSubstErrors(t *testing.T) {
	for i, c := range []struct {
		s    string
		l    []Binding
		want api.Errno
	}{
		{"A", many(100), api.OK},
		{"A", many(101), api.ErrMany},
		{"A", append(many(100), Binding{"x", "y"}), api.ErrMany},
		{"A", []Binding{{"a", "x"}, {"A", "x"}}, api.ErrName},
		{"A", []Binding{{"M::A", "int"}}, api.ErrName},
		{"A", []Binding{{"", "int"}}, api.ErrName},
		{"A", []Binding{{"A<B>", "int"}}, api.ErrName},
		{"A", []Binding{{"int", "int"}}, api.ErrName},
		{"A", []Binding{{strings.Repeat("A", 25), "int"}}, api.ErrName},
		{"A", []Binding{{strings.Repeat("A", 24), "int"}}, api.OK},
		{"A", []Binding{{"Z", "int"}}, api.OK},
		{"A", []Binding{{"a", "int"}}, api.ErrName},
		{"A", []Binding{{"z", "int"}}, api.ErrName},
		{"A", []Binding{{"A", "int"}, {"A", "x"}}, api.ErrTwice},
		{"A", []Binding{{"A", "A"}, {"A", "A"}}, api.ErrTwice},
		{"A", []Binding{{"A", "x"}, {"A", "int"}}, api.ErrSyntax},
		{"A", []Binding{{"B", nested(99, "int")}, {"a", "int"}}, api.ErrLong},
		{"A", []Binding{{"A", wide(400)}}, api.OK},
		{"seq<A>", []Binding{{"A", wide(395)}}, api.OK},
		{"seq<A>", []Binding{{"A", wide(396)}}, api.ErrLong},
		{"map<A,A>", []Binding{{"A", wide(198)}}, api.ErrLong},
		{"map<A,A>", []Binding{{"A", wide(197)}}, api.OK},
		{nested(29, "A"), []Binding{{"A", nested(30, "int")}}, api.OK},
		{nested(30, "A"), []Binding{{"A", nested(30, "int")}}, api.ErrLong},
		{"map<int,A>", []Binding{{"A", nested(59, "int")}}, api.ErrLong},
	} {
		if got, e := Subst(c.s, c.l); e != c.want || e != api.OK && got != "" {
			t.Errorf("%d: Subst(%q): %q, %d, want %d", i, c.s, got, e, c.want)
		}
	}
}

// variants are the heads of random types with their numbers of arguments.
var variants = map[string]int{"int": 0, "bool": 0, "Nat": 0, "bv8": 0, "seq": 1, "set": 1, "map": 2, "List": 1, "M::Pair": 2}

// typeOf returns a random type.
func typeOf(r *rand.Rand, depth int, leaves ...string) string {
	heads := slices.Sorted(func(yield func(string) bool) {
		for head, args := range variants {
			if (args == 0 || depth > 0) && !yield(head) {
				return
			}
		}
	})
	if len(leaves) > 0 && (depth == 0 || r.Intn(3) == 0) {
		return leaves[r.Intn(len(leaves))]
	}
	head := heads[r.Intn(len(heads))]
	var args []string
	for range variants[head] {
		args = append(args, typeOf(r, depth-1, leaves...))
	}
	if len(args) == 0 {
		return head
	}
	return head + "<" + strings.Join(args, ",") + ">"
}

// TestTypeTrees is for P5.4: a type string is that of its tree.
func TestTypeTrees(t *testing.T) {
	r := rand.New(rand.NewSource(5))
	for range 2000 {
		s := typeOf(r, 4, "T", "X::Y")
		if len(s) > 400 {
			continue
		}
		tr, e := Tree(s)
		back, f := Of(tr, len(tr)-1)
		head, args, g := Parts(s)
		if e != api.OK || f != api.OK || g != api.OK || back != s {
			t.Fatalf("%q: %d, %q, %d, %d", s, e, back, f, g)
		}
		again := head
		if len(args) > 0 {
			again += "<" + strings.Join(args, ",") + ">"
		}
		if again != s {
			t.Errorf("Parts of %q: %q", s, again)
		}
	}
}
