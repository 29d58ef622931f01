package term

import (
	"strconv"
	"strings"
	"testing"

	"entail/api"
)

// is returns a node of the sort Bool.
func is(op int, kids ...int) api.Term {
	return api.Term{Op: op, Sort: "Bool", Kids: kids}
}

// leaf returns a node without children.
func leaf(op int, sort, name string) api.Term {
	return api.Term{Op: op, Sort: sort, Name: name}
}

// all returns a quantifier over variables of the sort E with some names.
func all(names string, kids ...int) api.Term {
	n := is(api.LForall, kids...)
	for _, name := range strings.Fields(names) {
		n.Vars = append(n.Vars, api.Bound{Name: name, Sort: "E"})
	}
	return n
}

// forms are terms with the errors of their forms.
func terms() []struct {
	term api.Terms
	want api.Errno
} {
	yes, no := is(api.LTrue), is(api.LFalse)
	one, half := leaf(api.LNum, "Int", "1"), leaf(api.LNum, "Real", "1/2")
	x := leaf(api.LVar, "E", "x")
	trigger := func(kids ...int) api.Term { return api.Term{Op: api.LTrigger, Kids: kids} }
	with := func(n api.Term, change func(*api.Term)) api.Term { change(&n); return n }
	deep := func(n int) api.Terms {
		out := api.Terms{yes}
		for i := range n {
			out = append(out, is(api.LNot, i))
		}
		return out
	}
	flat := func(n int) api.Terms {
		out := make(api.Terms, n)
		root := is(api.LAnd)
		for i := range n {
			out[i] = yes
			root.Kids = append(root.Kids, i)
		}
		return append(out, root)
	}
	many := strings.Join(numbered("v", 13), " ")
	long := strings.Repeat("v", 200)
	return []struct {
		term api.Terms
		want api.Errno
	}{
		{nil, api.ErrEmpty},
		{api.Terms{yes}, api.OK},
		{flat(1999), api.OK},
		{flat(2000), api.ErrMany},
		{make(api.Terms, 2001), api.ErrMany},
		{deep(59), api.OK},
		{deep(60), api.ErrDeep},
		// kinds and numbers of children
		{api.Terms{{Op: -1}}, api.ErrKind},
		{api.Terms{{Op: api.TermOps}}, api.ErrKind},
		{api.Terms{yes, is(api.LTrue, 0)}, api.ErrShape},
		{api.Terms{yes, is(api.LFalse, 0)}, api.ErrShape},
		{api.Terms{yes, with(one, func(n *api.Term) { n.Kids = []int{0} })}, api.ErrShape},
		{api.Terms{yes, with(x, func(n *api.Term) { n.Kids = []int{0} })}, api.ErrShape},
		{api.Terms{is(api.LNot)}, api.ErrShape},
		{api.Terms{yes, no, is(api.LNot, 0, 1)}, api.ErrShape},
		{api.Terms{is(api.LAnd)}, api.OK},
		{api.Terms{yes, is(api.LOr, 0)}, api.OK},
		{api.Terms{yes, is(api.LImp, 0)}, api.ErrShape},
		{api.Terms{yes, is(api.LIff, 0)}, api.ErrShape},
		{api.Terms{yes, no, yes, is(api.LImp, 0, 1, 2)}, api.ErrShape},
		{api.Terms{yes, no, {Op: api.LIte, Sort: "E", Kids: []int{0, 1}}}, api.ErrShape},
		{api.Terms{yes, no, yes, {Op: api.LIte, Sort: "E", Kids: []int{0, 1, 2}}}, api.OK},
		{api.Terms{one, is(api.LEq, 0)}, api.ErrShape},
		{api.Terms{one, is(api.LLt, 0)}, api.ErrShape},
		{api.Terms{one, {Op: api.LAdd, Sort: "Int", Kids: []int{0}}}, api.ErrShape},
		{api.Terms{all("x")}, api.ErrShape},
		{api.Terms{trigger()}, api.ErrShape},
		{api.Terms{is(api.LTrue, 0, 1, 2)}, api.ErrShape},
		// the order
		{api.Terms{yes, no, is(api.LImp, 1, 0)}, api.ErrOrder},
		{api.Terms{yes, no, is(api.LImp, 0, 0)}, api.ErrOrder},
		{api.Terms{yes, no, is(api.LImp, 1, 1)}, api.ErrOrder},
		{api.Terms{yes, is(api.LNot, -1)}, api.ErrOrder},
		{api.Terms{yes, is(api.LNot, 1)}, api.ErrOrder},
		{api.Terms{yes, is(api.LNot, 2)}, api.ErrOrder},
		{api.Terms{yes, is(api.LNot, 0), is(api.LAnd, 0, 1)}, api.ErrOrder},
		{api.Terms{yes, no, is(api.LNot, 1), is(api.LAnd, 1, 2)}, api.ErrOrder},
		{api.Terms{yes, no, is(api.LNot, 1), is(api.LAnd, 0, 2)}, api.OK},
		{api.Terms{yes, no}, api.ErrOrder},
		{api.Terms{yes, no, is(api.LNot, 1)}, api.ErrOrder},
		{api.Terms{yes, trigger(0)}, api.ErrKind},
		{api.Terms{no, yes, trigger(1)}, api.ErrOrder},
		// triggers
		{api.Terms{yes, trigger(0), no, all("x", 1, 2)}, api.OK},
		{api.Terms{yes, no, trigger(0, 1), yes, trigger(3), no, all("x", 2, 4, 5)}, api.OK},
		{api.Terms{yes, trigger(0), is(api.LNot, 1)}, api.ErrKind},
		{api.Terms{yes, trigger(0), trigger(1), no, all("x", 2, 3)}, api.ErrKind},
		{api.Terms{yes, trigger(0), all("x", 1)}, api.ErrKind},
		{api.Terms{yes, no, all("x", 0, 1)}, api.ErrKind},
		{api.Terms{yes, trigger(0), no, no, all("x", 1, 2, 3)}, api.ErrKind},
		// names
		{api.Terms{leaf(api.LNum, "Int", "")}, api.ErrName},
		{api.Terms{leaf(api.LNum, "Int", "01")}, api.ErrName},
		{api.Terms{leaf(api.LNum, "Int", "1.5")}, api.ErrName},
		{api.Terms{leaf(api.LNum, "Real", "2/4")}, api.ErrName},
		{api.Terms{leaf(api.LNum, "Int", strings.Repeat("9", 120))}, api.OK},
		{api.Terms{leaf(api.LNum, "Int", strings.Repeat("9", 121))}, api.ErrName},
		{api.Terms{leaf(api.LVar, "E", "")}, api.ErrName},
		{api.Terms{leaf(api.LVar, "E", "a b")}, api.ErrName},
		{api.Terms{leaf(api.LVar, "E", "a\n")}, api.ErrName},
		{api.Terms{leaf(api.LVar, "E", "(")}, api.ErrName},
		{api.Terms{leaf(api.LVar, "E", "a}")}, api.ErrName},
		{api.Terms{leaf(api.LVar, "E", "?")}, api.OK},
		{api.Terms{leaf(api.LVar, "E", "true")}, api.OK},
		{api.Terms{leaf(api.LVar, "no sort", "0")}, api.OK},
		{api.Terms{leaf(api.LVar, "E", long)}, api.OK},
		{api.Terms{leaf(api.LVar, "E", long+"v")}, api.ErrName},
		{api.Terms{leaf(api.LApp, "E", "")}, api.ErrName},
		{api.Terms{leaf(api.LApp, "E", "a b")}, api.OK},
		{api.Terms{leaf(api.LApp, "E", long+long)}, api.OK},
		{api.Terms{leaf(api.LTrue, "Bool", "x")}, api.ErrName},
		{api.Terms{yes, with(is(api.LNot, 0), func(n *api.Term) { n.Name = "not" })}, api.ErrName},
		{api.Terms{yes, with(trigger(0), func(n *api.Term) { n.Name = "t" }), no, all("x", 1, 2)}, api.ErrName},
		{api.Terms{yes, with(all("x", 0), func(n *api.Term) { n.Name = "x" })}, api.ErrName},
		// variables
		{api.Terms{yes, all("", 0)}, api.ErrMany},
		{api.Terms{yes, all(strings.Join(numbered("v", 12), " "), 0)}, api.OK},
		{api.Terms{yes, all(many, 0)}, api.ErrMany},
		{api.Terms{yes, with(is(api.LNot, 0), func(n *api.Term) { n.Vars = []api.Bound{{Name: "x", Sort: "E"}} })}, api.ErrMany},
		{api.Terms{with(yes, func(n *api.Term) { n.Vars = []api.Bound{{}} })}, api.ErrMany},
		{api.Terms{yes, all("x x", 0)}, api.ErrTwice},
		{api.Terms{yes, all("x { x", 0)}, api.ErrName},
		{api.Terms{yes, all("x y x {", 0)}, api.ErrTwice},
		{api.Terms{yes, with(all("x", 0), func(n *api.Term) { n.Vars[0].Sort = "" })}, api.OK},
		// sorts
		{api.Terms{leaf(api.LTrue, "", "")}, api.ErrSort},
		{api.Terms{leaf(api.LFalse, "Int", "")}, api.ErrSort},
		{api.Terms{leaf(api.LNum, "", "1")}, api.ErrSort},
		{api.Terms{leaf(api.LNum, "E", "1")}, api.ErrSort},
		{api.Terms{leaf(api.LNum, "Real", "1")}, api.ErrSort},
		{api.Terms{leaf(api.LNum, "Int", "1/2")}, api.ErrSort},
		{api.Terms{leaf(api.LNum, "Real", "-1/1")}, api.OK},
		{api.Terms{leaf(api.LVar, "", "x")}, api.ErrSort},
		{api.Terms{leaf(api.LApp, "", "f")}, api.ErrSort},
		{api.Terms{yes, {Op: api.LNot, Kids: []int{0}}}, api.ErrSort},
		{api.Terms{yes, no, yes, {Op: api.LIte, Kids: []int{0, 1, 2}}}, api.ErrSort},
		{api.Terms{one, one, {Op: api.LAdd, Sort: "Bool", Kids: []int{0, 1}}}, api.ErrSort},
		{api.Terms{one, one, {Op: api.LSub, Sort: "E", Kids: []int{0, 1}}}, api.ErrSort},
		{api.Terms{one, half, {Op: api.LMul, Sort: "Int", Kids: []int{0, 1}}}, api.OK},
		{api.Terms{one, one, {Op: api.LLt, Sort: "Int", Kids: []int{0, 1}}}, api.ErrSort},
		{api.Terms{yes, {Op: api.LTrigger, Sort: "Bool", Kids: []int{0}}, no, all("x", 1, 2)}, api.ErrSort},
		{api.Terms{yes, with(all("x", 0), func(n *api.Term) { n.Sort = "" })}, api.ErrSort},
		// of several errors of a node the first one, and the first node
		{api.Terms{{Op: api.LNot, Name: "x", Vars: []api.Bound{{}}}}, api.ErrShape},
		{api.Terms{yes, {Op: api.LNot, Name: "x", Kids: []int{7}}}, api.ErrOrder},
		{api.Terms{yes, {Op: api.LNot, Name: "x", Kids: []int{0}, Vars: []api.Bound{{}}}}, api.ErrName},
		{api.Terms{yes, {Op: api.LNot, Kids: []int{0}, Vars: []api.Bound{{}}}}, api.ErrMany},
		{api.Terms{yes, trigger(0), {Op: api.LNot, Name: "x", Kids: []int{1}}}, api.ErrKind},
		{api.Terms{leaf(api.LVar, "", "x"), {Op: -1}}, api.ErrSort},
		{append(deep(60), api.Term{Op: -1}), api.ErrKind},
		{append(deep(60), yes), api.ErrOrder},
	}
}

// TestCheckForm is for P9.1: the first error of the form.
func TestCheckForm(t *testing.T) {
	for i, c := range terms() {
		if e := CheckForm(c.term); e != c.want {
			t.Errorf("%d: CheckForm(%v): %d, want %d", i, c.term, e, c.want)
		}
	}
}

// TestFormFirst is for P9.1 to P9.5: the error of the form comes before those that follow.
func TestFormFirst(t *testing.T) {
	sig := example()
	for i, c := range terms() {
		if c.want == api.OK {
			continue
		}
		x := c.term
		_, e0 := Check(sig, []api.Bound{{}}, x)
		_, e1 := App(sig, "p", x)
		_, e2 := Make(api.LNot, x, x)
		_, e3 := Quantify(api.LForall, nil, [][]api.Terms{{}}, x)
		_, e4 := Quantify(api.LForall, nil, [][]api.Terms{{}, {Bool(true), x}}, Var("x", "E"))
		_, e5 := Sub(x, -1)
		_, e6 := Free(x)
		_, e7 := Subst(x, make([]Binding, 101))
		_, e8 := Subst(Bool(true), []Binding{{"x", x}, {"", nil}})
		same, e9 := Alpha(x, nil)
		also, e10 := Alpha(Bool(true), x)
		_, e11 := NNF(x)
		_, f, e12 := Skolem(x, "")
		_, e13 := Simplify(x)
		_, e14 := Print(x)
		for j, e := range []api.Errno{e0, e1, e2, e3, e4, e5, e6, e7, e8, e9, e10, e11, e12, e13, e14} {
			if e != c.want || len(f) > 0 || same || also {
				t.Errorf("%d: function %d of %v: %d, want %d", i, j, x, e, c.want)
			}
		}
	}
}

// TestCheck is for P9.1: sorts, and the first node with an error.
func TestCheck(t *testing.T) {
	for s, want := range map[string]string{
		"(cons (f c) nil)": "L", "(select$Map<Int,E> ?m 3)": "E", "true": "Bool", "(+ 1 2)": "Int", "(* 1/2 ?r)": "Real", "(ite ?b ?x c)": "E", "(= ?x c)": "Bool",
		"(forall ((x L)) (! (tail ?x)) (= ?x nil))": "Bool", "(forall ((x Int)) (exists ((x E)) (p ?x)))": "Bool", "(ite (< 1 2) nil ?l)": "L", "-5": "Int", "?m": "Map<Int,E>", "(is$cons nil)": "Bool",
	} {
		if got, e := Check(example(), free(), of(t, s)); got != want || e != api.OK {
			t.Errorf("Check(%s): %q, %d, want %q", s, got, e, want)
		}
	}
	x, one, half, yes := leaf(api.LVar, "E", "x"), leaf(api.LNum, "Int", "1"), leaf(api.LNum, "Real", "1/2"), is(api.LTrue)
	app := func(name, sort string, kids ...int) api.Term {
		return api.Term{Op: api.LApp, Sort: sort, Name: name, Kids: kids}
	}
	of := func(op int, sort string, kids ...int) api.Term { return api.Term{Op: op, Sort: sort, Kids: kids} }
	over := func(sort string, kids ...int) api.Term {
		return api.Term{Op: api.LExists, Sort: "Bool", Vars: []api.Bound{{Name: "x", Sort: sort}}, Kids: kids}
	}
	for i, c := range []struct {
		term api.Terms
		want api.Errno
	}{
		{api.Terms{leaf(api.LVar, "E", "nope")}, api.ErrUnknown},
		{api.Terms{leaf(api.LVar, "Int", "x")}, api.ErrSort},
		{api.Terms{leaf(api.LVar, "Int", "x"), one, is(api.LEq, 0, 1), over("Int", 2)}, api.OK},
		{api.Terms{x, app("p", "Bool", 0), over("Int", 1)}, api.ErrSort},
		{api.Terms{leaf(api.LVar, "F", "x"), app("p", "Bool", 0), over("F", 1)}, api.ErrSort},
		{api.Terms{yes, over("F", 0)}, api.ErrSort},
		{api.Terms{yes, over("", 0)}, api.ErrSort},
		{api.Terms{one, over("E", 0)}, api.ErrSort},
		{api.Terms{app("d", "E")}, api.ErrUnknown},
		{api.Terms{app("f", "E")}, api.ErrArgs},
		{api.Terms{x, x, app("f", "E", 0, 1)}, api.ErrArgs},
		{api.Terms{x, x, app("d", "F", 0, 1)}, api.ErrUnknown},
		{api.Terms{one, app("f", "E", 0)}, api.ErrSort},
		{api.Terms{x, app("f", "Int", 0)}, api.ErrSort},
		{api.Terms{app("c", "L")}, api.ErrSort},
		{api.Terms{app("empty$Seq<E>", "Seq<E>")}, api.OK},
		{api.Terms{app("empty$Seq<F>", "Seq<F>")}, api.ErrUnknown},
		{api.Terms{one, is(api.LNot, 0)}, api.ErrSort},
		{api.Terms{yes, one, is(api.LAnd, 0, 1)}, api.ErrSort},
		{api.Terms{one, yes, is(api.LOr, 0, 1)}, api.ErrSort},
		{api.Terms{yes, one, is(api.LImp, 0, 1)}, api.ErrSort},
		{api.Terms{one, one, is(api.LIff, 0, 1)}, api.ErrSort},
		{api.Terms{one, one, one, of(api.LIte, "Int", 0, 1, 2)}, api.ErrSort},
		{api.Terms{yes, one, half, of(api.LIte, "Int", 0, 1, 2)}, api.ErrSort},
		{api.Terms{yes, one, one, of(api.LIte, "Real", 0, 1, 2)}, api.ErrSort},
		{api.Terms{yes, one, one, of(api.LIte, "Int", 0, 1, 2)}, api.OK},
		{api.Terms{one, half, is(api.LEq, 0, 1)}, api.ErrSort},
		{api.Terms{yes, yes, is(api.LEq, 0, 1)}, api.OK},
		{api.Terms{one, half, of(api.LAdd, "Int", 0, 1)}, api.ErrSort},
		{api.Terms{one, one, of(api.LSub, "Real", 0, 1)}, api.ErrSort},
		{api.Terms{half, half, of(api.LMul, "Real", 0, 1)}, api.OK},
		{api.Terms{x, x, of(api.LMul, "Int", 0, 1)}, api.ErrSort},
		{api.Terms{one, half, is(api.LLt, 0, 1)}, api.ErrSort},
		{api.Terms{x, x, is(api.LLe, 0, 1)}, api.ErrSort},
		{api.Terms{half, half, is(api.LLe, 0, 1)}, api.OK},
		{api.Terms{leaf(api.LVar, "E", "nope"), of(api.LTrigger, "", 0), yes, over("E", 1, 2)}, api.ErrUnknown},
		{api.Terms{leaf(api.LVar, "E", "x"), of(api.LTrigger, "", 0), yes, over("E", 1, 2)}, api.OK},
		{api.Terms{one, is(api.LNot, 0), leaf(api.LVar, "E", "nope"), is(api.LEq, 1, 2)}, api.ErrSort},
	} {
		if sort, e := Check(example(), free(), c.term); e != c.want || (sort == "") != (e != api.OK) {
			t.Errorf("%d: Check(%v): %q, %d, want %d", i, c.term, sort, e, c.want)
		}
	}
	vars := func(count int) []api.Bound {
		var out []api.Bound
		for i := range count {
			out = append(out, api.Bound{Name: "v" + strconv.Itoa(i), Sort: "E"})
		}
		return out
	}
	for i, c := range []struct {
		vars []api.Bound
		want api.Errno
	}{
		{vars(100), api.OK}, {vars(101), api.ErrMany}, {append(vars(1), vars(1)...), api.ErrTwice}, {[]api.Bound{{Name: "x", Sort: "F"}, {}}, api.ErrSort}, {[]api.Bound{{}, {Name: "x", Sort: "F"}}, api.ErrName},
		{[]api.Bound{{Name: "a b", Sort: "E"}}, api.ErrName}, {[]api.Bound{{Name: "x", Sort: "E"}, {Name: "x", Sort: "F"}}, api.ErrTwice}, {[]api.Bound{{Name: "x", Sort: ""}}, api.ErrSort},
	} {
		want := c.want
		if want == api.OK {
			want = api.ErrUnknown
		}
		if _, e := Check(example(), c.vars, api.Terms{leaf(api.LVar, "E", "nope")}); e != want {
			t.Errorf("variables %d: Check: %d, want %d", i, e, want)
		}
		if _, at, e := Parse(example(), c.vars, "?nope"); e != want || at != 0 {
			t.Errorf("variables %d: Parse: %d at %d, want %d", i, e, at, want)
		}
	}
}

// TestConstruction is for P9.2: terms that are built from parts, and the errors of the parts.
func TestConstruction(t *testing.T) {
	sig := example()
	one, half, x, yes := of(t, "1"), of(t, "1/2"), of(t, "?x"), Bool(true)
	if !Same(Bool(true), api.Terms{is(api.LTrue)}) || !Same(Bool(false), api.Terms{is(api.LFalse)}) || !Same(Var("a b", ""), api.Terms{leaf(api.LVar, "", "a b")}) {
		t.Error("Bool or Var")
	}
	for _, c := range []struct {
		sort, s string
		want    api.Errno
	}{{"Int", "-12", api.OK}, {"Real", "-1/2", api.OK}, {"Real", "3/1", api.OK}, {"Int", "1/2", api.ErrForm}, {"Real", "3", api.ErrForm}, {"Real", "2/4", api.ErrForm}, {"Int", "", api.ErrForm}, {"Int", "-0", api.ErrForm}, {"Bool", "", api.ErrSort}, {"", "1", api.ErrSort}, {"E", "1", api.ErrSort}, {"Int", strings.Repeat("9", 121), api.ErrForm}} {
		got, e := Num(c.sort, c.s)
		if e != c.want || e == api.OK && !Same(got, api.Terms{leaf(api.LNum, c.sort, c.s)}) || e != api.OK && len(got) > 0 {
			t.Errorf("Num(%q, %q): %v, %d, want %d", c.sort, c.s, got, e, c.want)
		}
	}
	wide := make([]api.Terms, 2000)
	for i := range wide {
		wide[i] = yes
	}
	deep := yes
	for range 59 {
		deep, _ = Make(api.LNot, deep)
	}
	for i, c := range []struct {
		term func() (api.Terms, api.Errno)
		want string
		e    api.Errno
	}{
		{func() (api.Terms, api.Errno) { return App(sig, "cons", x, of(t, "nil")) }, "(cons ?x nil)", api.OK},
		{func() (api.Terms, api.Errno) { return App(sig, "c") }, "c", api.OK},
		{func() (api.Terms, api.Errno) { return App(sig, "at$Seq<E>", Var("s", "Seq<E>"), one) }, "(at$Seq<E> ?s 1)", api.OK},
		{func() (api.Terms, api.Errno) { return App(sig, "d", nil) }, "", api.ErrUnknown},
		{func() (api.Terms, api.Errno) { return App(sig, "f") }, "", api.ErrArgs},
		{func() (api.Terms, api.Errno) { return App(sig, "f", nil, nil) }, "", api.ErrArgs},
		{func() (api.Terms, api.Errno) { return App(sig, "q", one, nil) }, "", api.ErrEmpty},
		{func() (api.Terms, api.Errno) { return App(sig, "f", one) }, "", api.ErrSort},
		{func() (api.Terms, api.Errno) { return App(sig, "q", x, one) }, "", api.ErrSort},
		{func() (api.Terms, api.Errno) { return Make(api.LAnd) }, "(and)", api.OK},
		{func() (api.Terms, api.Errno) { return Make(api.LOr, yes, yes, yes) }, "(or true true true)", api.OK},
		{func() (api.Terms, api.Errno) { return Make(api.LIte, yes, x, x) }, "(ite true ?x ?x)", api.OK},
		{func() (api.Terms, api.Errno) { return Make(api.LSub, half, half) }, "(- 1/2 1/2)", api.OK},
		{func() (api.Terms, api.Errno) { return Make(api.LTrue) }, "", api.ErrKind},
		{func() (api.Terms, api.Errno) { return Make(api.LApp, nil) }, "", api.ErrKind},
		{func() (api.Terms, api.Errno) { return Make(api.LForall, nil) }, "", api.ErrKind},
		{func() (api.Terms, api.Errno) { return Make(-1, nil) }, "", api.ErrKind},
		{func() (api.Terms, api.Errno) { return Make(api.TermOps, nil) }, "", api.ErrKind},
		{func() (api.Terms, api.Errno) { return Make(api.LNot, one, nil) }, "", api.ErrEmpty},
		{func() (api.Terms, api.Errno) { return Make(api.LNot, one, one) }, "", api.ErrShape},
		{func() (api.Terms, api.Errno) { return Make(api.LEq, one) }, "", api.ErrShape},
		{func() (api.Terms, api.Errno) { return Make(api.LIte, one, one) }, "", api.ErrShape},
		{func() (api.Terms, api.Errno) { return Make(api.LNot, one) }, "", api.ErrSort},
		{func() (api.Terms, api.Errno) { return Make(api.LEq, one, half) }, "", api.ErrSort},
		{func() (api.Terms, api.Errno) { return Make(api.LLe, x, x) }, "", api.ErrSort},
		{func() (api.Terms, api.Errno) { return Make(api.LAdd, one, half) }, "", api.ErrSort},
		{func() (api.Terms, api.Errno) { return Make(api.LIte, x, x, x) }, "", api.ErrSort},
		{func() (api.Terms, api.Errno) { return Make(api.LAnd, wide...) }, "", api.ErrMany},
		{func() (api.Terms, api.Errno) { return Make(api.LAnd, append(wide, wide...)...) }, "", api.ErrMany},
		{func() (api.Terms, api.Errno) { return Make(api.LNot, deep) }, "", api.ErrDeep},
		{func() (api.Terms, api.Errno) {
			return Quantify(api.LExists, []api.Bound{{Name: "x", Sort: "E"}}, [][]api.Terms{{x, one}, {x}}, yes)
		}, "(exists ((x E)) (! ?x 1) (! ?x) true)", api.OK},
		{func() (api.Terms, api.Errno) { return Quantify(api.LForall, free()[:2], nil, yes) }, "(forall ((x E) (y E)) true)", api.OK},
		{func() (api.Terms, api.Errno) { return Quantify(api.LNot, nil, nil, nil) }, "", api.ErrKind},
		{func() (api.Terms, api.Errno) { return Quantify(api.LTrigger, nil, nil, nil) }, "", api.ErrKind},
		{func() (api.Terms, api.Errno) { return Quantify(-1, nil, nil, nil) }, "", api.ErrKind},
		{func() (api.Terms, api.Errno) { return Quantify(api.LForall, nil, [][]api.Terms{{nil}}, one) }, "", api.ErrEmpty},
		{func() (api.Terms, api.Errno) { return Quantify(api.LForall, nil, [][]api.Terms{{}}, one) }, "", api.ErrShape},
		{func() (api.Terms, api.Errno) { return Quantify(api.LForall, nil, nil, one) }, "", api.ErrSort},
		{func() (api.Terms, api.Errno) { return Quantify(api.LForall, nil, nil, yes) }, "", api.ErrMany},
		{func() (api.Terms, api.Errno) {
			return Quantify(api.LForall, []api.Bound{{Name: "{", Sort: "E"}}, nil, yes)
		}, "", api.ErrName},
		{func() (api.Terms, api.Errno) { return Quantify(api.LForall, append(free()[:1], free()[0]), nil, yes) }, "", api.ErrTwice},
		{func() (api.Terms, api.Errno) { return Quantify(api.LForall, free(), nil, deep) }, "", api.ErrDeep},
		{func() (api.Terms, api.Errno) { return Quantify(api.LForall, free(), [][]api.Terms{wide}, yes) }, "", api.ErrMany},
	} {
		got, e := c.term()
		if e != c.e || e != api.OK && len(got) > 0 || e == api.OK && shown(t, got) != c.want {
			t.Errorf("%d: %v, %d, want %s, %d", i, got, e, c.want, c.e)
		}
	}
}

// TestSub is for P9.2: every subterm, and nodes that do not exist.
func TestSub(t *testing.T) {
	x := of(t, "(forall ((x E)) (! (f ?x)) (q (f ?x) c))")
	for node, want := range []string{"?x", "(f ?x)", "", "?x", "(f ?x)", "c", "(q (f ?x) c)", "(forall ((x E)) (! (f ?x)) (q (f ?x) c))"} {
		got, e := Sub(x, node)
		if e != api.OK {
			t.Fatalf("Sub(%d): %d", node, e)
		}
		if node == 2 {
			if len(got) != 3 || got[2].Op != api.LTrigger {
				t.Errorf("Sub of a trigger: %v", got)
			}
		} else if shown(t, got) != want {
			t.Errorf("Sub(%d): %v, want %s", node, got, want)
		}
		if got[len(got)-1].Vars != nil {
			got[len(got)-1].Vars[0].Name = "changed"
		}
	}
	if x[len(x)-1].Vars[0].Name != "x" {
		t.Error("Sub shares memory with its argument")
	}
	for _, node := range []int{-1, len(x)} {
		if got, e := Sub(x, node); len(got) > 0 || e != api.ErrUnknown {
			t.Errorf("Sub(%d): %v, %d", node, got, e)
		}
	}
}
