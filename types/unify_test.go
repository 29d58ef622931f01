package types

import (
	"math/rand"
	"slices"
	"strings"
	"testing"

	"entail/api"
	"entail/common"
)

// showBindings returns bindings as text.
func showBindings(l []Binding) string {
	var out []string
	for _, b := range l {
		out = append(out, b.Name+"="+b.Type)
	}
	return strings.Join(out, " ")
}

// TestUnify is for P5.1: bindings, and types that cannot be made equal.
func TestUnify(t *testing.T) {
	abc := []string{"A", "B", "C"}
	for _, c := range []struct {
		a, b, want string
		vars       []string
		unified    bool
	}{
		{"int", "int", "", nil, true},
		{"int", "bool", "", abc, false},
		{"A", "A", "", abc, true},
		{"A", "A", "", nil, true},
		{"A", "B", "", nil, false},
		{"A", "int", "", nil, false},
		{"A", "int", "A=int", abc, true},
		{"int", "A", "A=int", abc, true},
		{"A", "B", "A=B", abc, true},
		{"B", "A", "A=B", abc, true},
		{"A", "B", "B=A", []string{"B", "A"}, true},
		{"B", "A", "B=A", []string{"C", "B", "A"}, true},
		{"A", "D", "A=D", abc, true},
		{"D", "A", "A=D", abc, true},
		{"A", "seq<A>", "", abc, false},
		{"seq<A>", "A", "", abc, false},
		{"A", "A<A>", "", abc, false},
		{"A", "B<int>", "A=B<int>", abc, true},
		{"B<A>", "B<int>", "A=int", abc, true},
		{"B<A>", "A<int>", "", abc, false},
		{"M::A", "int", "", abc, false},
		{"map<A,seq<B>>", "map<int,A>", "", []string{"A", "B"}, false},
		{"List<A>", "List<seq<B>>", "A=seq<B>", abc, true},
		{"map<A,B>", "map<B,int>", "A=int B=int", abc, true},
		{"map<A,B>", "map<seq<B>,int>", "A=seq<int> B=int", abc, true},
		{"map<A,A>", "map<B,seq<B>>", "", abc, false},
		{"map<A,A>", "map<B,C>", "A=C B=C", abc, true},
		{"D<A,B,C>", "D<B,C,A>", "A=C B=C", abc, true},
		{"D<C,A>", "D<seq<A>,int>", "A=int C=seq<int>", abc, true},
		{"D<A,B>", "D<A>", "", abc, false},
		{"D<A>", "E<A>", "", abc, false},
		{"map<A,int>", "map<seq<A>,bool>", "", abc, false},
		{"D<A,A,B>", "D<seq<B>,seq<int>,C>", "A=seq<int> B=int C=int", abc, true},
		{"bv8", "bv9", "", abc, false},
		{"seq<int>", "set<int>", "", abc, false},
	} {
		l, unified, e := Unify(c.a, c.b, c.vars)
		if got := showBindings(l); got != c.want || unified != c.unified || e != api.OK {
			t.Errorf("Unify(%q, %q, %q): %s, %v, %d, want %q", c.a, c.b, c.vars, got, unified, e, c.want)
		}
	}
}

// TestUnifyErrors is for P5.1: the errors of the variables, and types that become too long or nested too deep.
func TestUnifyErrors(t *testing.T) {
	names := func(n int) []string {
		var out []string
		for _, b := range many(n) {
			out = append(out, b.Name)
		}
		return out
	}
	double := []string{"A", "B", "C", "E", "F", "G", "H", "I", "J", "K"}
	for i, c := range []struct {
		a, b string
		vars []string
		want api.Errno
	}{
		{"A", "int", names(100), api.OK},
		{"A", "int", names(101), api.ErrMany},
		{"A", "int", append(names(100), "x"), api.ErrMany},
		{"A", "int", []string{"A", "x", "A"}, api.ErrName},
		{"A", "int", []string{"A", "A", "x"}, api.ErrTwice},
		{"A", "int", []string{"M::A"}, api.ErrName},
		{"A", "int", []string{""}, api.ErrName},
		{"A", "int", []string{"int"}, api.ErrName},
		{"A", "int", []string{"A<B>"}, api.ErrName},
		{"A", "int", []string{"A "}, api.ErrName},
		{"A", "int", []string{strings.Repeat("A", 25)}, api.ErrName},
		{"A", "a", []string{"x"}, api.ErrSyntax},
		{"A", wide(400), []string{"A"}, api.OK},
		{"map<A,B>", "map<" + wide(190) + ",seq<A>>", []string{"A", "B"}, api.OK},
		{"map<A,B>", "map<" + wide(190) + ",D<A,A,A>>", []string{"A", "B"}, api.ErrLong},
		{"map<A,B>", "map<D<B,B,B>," + wide(190) + ">", []string{"A", "B"}, api.ErrLong}, // the binding of A becomes too long
		{"X<A,B,A>", "X<D<B,B,B>," + wide(190) + ",int>", []string{"A", "B"}, api.ErrLong},
		{"X<A,B,int>", "X<D<B,B,B>," + wide(100) + ",bool>", []string{"A", "B"}, api.OK},
		{"X<A,B,int>", "X<D<B,B,B>," + wide(190) + ",bool>", []string{"A", "B"}, api.ErrLong},
		{"X<int,A,B>", "X<bool," + wide(190) + ",D<A,A,A>>", []string{"A", "B"}, api.OK},                        // the difference comes first
		{"X<A,B,D<A,A,A>>", "X<" + wide(150) + "," + wide(150) + ",D<B,B,B>>", []string{"A", "B"}, api.ErrLong}, // both are equal by then, but too long
		{"X<A,B,D<A,A,A>>", "X<" + wide(130) + "," + wide(130) + ",D<B,B,B>>", []string{"A", "B"}, api.OK},
		{"X<A,D<A,A,A>>", "X<" + wide(150) + ",int>", []string{"A"}, api.ErrLong},
		{"X<A,int>", "X<" + wide(150) + ",D<A,A,A>>", []string{"A"}, api.ErrLong},
		{"X<A,B>", "X<" + nested(30, "int") + "," + nested(30, "A") + ">", []string{"A", "B"}, api.ErrLong},
		{"X<A,B>", "X<" + nested(30, "int") + "," + nested(29, "A") + ">", []string{"A", "B"}, api.OK},
		{"X<A,B>", "X<" + nested(29, "B") + "," + nested(30, "int") + ">", []string{"A", "B"}, api.OK},
		{"X<A,B>", "X<" + nested(30, "B") + "," + nested(30, "int") + ">", []string{"A", "B"}, api.ErrLong},
		{"X<A,B,C,E,F,G,H,I,J>", "X<D<B,B>,D<C,C>,D<E,E>,D<F,F>,D<G,G>,D<H,H>,D<I,I>,D<J,J>,D<K,K>>", double, api.ErrLong},
		{"X<A,B,C,E,F>", "X<D<B,B>,D<C,C>,D<E,E>,D<F,F>,D<G,G>>", double, api.OK},
	} {
		l, unified, e := Unify(c.a, c.b, c.vars)
		if e != c.want || e != api.OK && (unified || len(l) > 0) {
			t.Errorf("%d: Unify(%.50q, %.50q): %v, %v, %d, want %d", i, c.a, c.b, l, unified, e, c.want)
		}
	}
}

// generalized returns a type in which some parts are variables that stand for them.
func generalized(r *rand.Rand, s string, stands map[string]string) string {
	names := []string{"A", "B", "C"}
	for _, name := range names {
		if stands[name] == s && r.Intn(2) == 0 {
			return name
		}
	}
	if name := names[r.Intn(3)]; stands[name] == "" && r.Intn(4) == 0 {
		stands[name] = s
		return name
	}
	head, args, _ := Parts(s)
	for i := range args {
		args[i] = generalized(r, args[i], stands)
	}
	return shape{head, common.Transform(args, func(arg string) shape { s, _ := readShape(arg); return s })}.text()
}

// TestMostGeneral is for P5.4: two types that a substitution makes equal are unified; the bindings make them equal, are applied to each other, and the substitution factors through them.
func TestMostGeneral(t *testing.T) {
	r := rand.New(rand.NewSource(6))
	vars := []string{"A", "B", "C"}
	for range 3000 {
		ground := typeOf(r, 4)
		stands := map[string]string{}
		a := generalized(r, ground, stands)
		b := generalized(r, ground, stands)
		if len(ground) > 300 {
			continue
		}
		l, unified, e := Unify(a, b, vars)
		if !unified || e != api.OK {
			t.Fatalf("Unify(%q, %q): %v, %d, but %v makes both %q", a, b, unified, e, stands, ground)
		}
		checkUnifier(t, a, b, vars, l)
		var all []Binding
		for _, name := range vars {
			if stands[name] != "" {
				all = append(all, Binding{name, stands[name]})
			}
		}
		for _, bound := range l {
			left, _ := Subst(bound.Name, all)
			right, _ := Subst(bound.Type, all)
			if left != right {
				t.Fatalf("Unify(%q, %q): %s, through which %v does not factor", a, b, showBindings(l), all)
			}
		}
	}
}

// checkUnifier checks that bindings make two types equal, and that none has a variable with a binding in its type.
func checkUnifier(t *testing.T, a, b string, vars []string, l []Binding) {
	t.Helper()
	left, _ := Subst(a, l)
	right, _ := Subst(b, l)
	if left != right || left == "" {
		t.Fatalf("Unify(%q, %q): %s makes them %q and %q", a, b, showBindings(l), left, right)
	}
	last := -1
	for _, bound := range l {
		at := slices.Index(vars, bound.Name)
		if at <= last {
			t.Fatalf("Unify(%q, %q): %s is not in the order of the variables", a, b, showBindings(l))
		}
		last = at
		if again, _ := Subst(bound.Type, l); again != bound.Type {
			t.Fatalf("Unify(%q, %q): %s is not applied to itself", a, b, showBindings(l))
		}
	}
}

// TestNotUnified is for P5.4: what is not unified, no substitution of small types makes equal.
func TestNotUnified(t *testing.T) {
	r := rand.New(rand.NewSource(7))
	vars := []string{"A", "B"}
	small := []string{"int", "bool", "seq<int>", "seq<bool>", "set<int>", "seq<seq<int>>", "map<int,int>"}
	unified, not := 0, 0
	for range 1500 {
		a, b := typeOf(r, 2, "A", "B", "int"), typeOf(r, 2, "A", "B", "int")
		l, is, e := Unify(a, b, vars)
		if e != api.OK {
			t.Fatalf("Unify(%q, %q): %d", a, b, e)
		}
		if is {
			unified++
			checkUnifier(t, a, b, vars, l)
			continue
		}
		not++
		for _, x := range small {
			for _, y := range small {
				s := []Binding{{"A", x}, {"B", y}}
				left, _ := Subst(a, s)
				if right, _ := Subst(b, s); left == right {
					t.Fatalf("Unify(%q, %q): nothing, but %v makes them %q", a, b, s, left)
				}
			}
		}
	}
	if unified < 100 || not < 100 {
		t.Errorf("%d unified, %d not", unified, not)
	}
}
