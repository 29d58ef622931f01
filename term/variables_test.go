package term

import (
	"math/rand"
	"slices"
	"strconv"
	"strings"
	"testing"

	"entail/api"
)

// TestFree is for P9.3: the free variables in the order of their first nodes.
func TestFree(t *testing.T) {
	for s, want := range map[string][]string{
		"c": nil, "?x": {"x"}, "(q ?y ?x)": {"y", "x"}, "(and (q ?y ?x) (q ?x ?z))": {"y", "x", "z"}, "(forall ((x E)) (q ?x ?y))": {"y"}, "(forall ((x E)) (! (q ?x ?z)) (q ?x ?y))": {"z", "y"},
		"(and (forall ((x E)) (p ?x)) (p ?x))": {"x"}, "(forall ((x E)) (exists ((y E)) (and (q ?x ?y) (q ?z ?y))))": {"z"}, "(and (exists ((x E)) (forall ((x Int)) (< ?x 1))) ?b)": {"b"},
	} {
		got, e := Free(of(t, s))
		var names []string
		for _, v := range got {
			names = append(names, v.Name)
			if !slices.Contains(free(), v) {
				t.Errorf("Free(%s): the sort of %v", s, v)
			}
		}
		if !slices.Equal(names, want) || e != api.OK {
			t.Errorf("Free(%s): %v, %d, want %q", s, got, e, want)
		}
	}
	twice := api.Terms{leaf(api.LVar, "E", "x"), leaf(api.LVar, "Int", "x"), is(api.LEq, 0, 1)}
	if got, e := Free(twice); !slices.Equal(got, []api.Bound{{Name: "x", Sort: "E"}}) || e != api.OK {
		t.Errorf("Free of one name with two sorts: %v, %d", got, e)
	}
}

// TestSubst is for P9.3: names of bound variables, and replacements all at once.
func TestSubst(t *testing.T) {
	for _, c := range []struct{ s, by, want string }{
		{"(= ?x c)", "x=(f c)", "(= (f c) c)"},
		{"(q ?x ?y)", "x=?y y=?x", "(q ?y ?x)"},
		{"(q ?x ?y)", "z=c", "(q ?x ?y)"},
		{"(q ?x ?y)", "", "(q ?x ?y)"},
		{"(forall ((x E)) (p ?x))", "x=c", "(forall ((x E)) (p ?x))"},
		{"(forall ((y E)) (= ?x ?y))", "x=?y", "(forall ((y' E)) (= ?y ?y'))"},
		{"(forall ((y E)) (= ?x ?y))", "x=(f ?y)", "(forall ((y' E)) (= (f ?y) ?y'))"},
		{"(forall ((y E)) (= ?y c))", "x=?y", "(forall ((y E)) (= ?y c))"},
		{"(forall ((y E)) (= ?x c))", "x=?y", "(forall ((y' E)) (= ?y c))"},
		{"(forall ((y E) (y' E)) (q ?x (f ?y)))", "x=?y", "(forall ((y'' E) (y' E)) (q ?y (f ?y'')))"},
		{"(forall ((y' E) (y E)) (q ?x ?y))", "x=?y", "(forall ((y' E) (y'' E)) (q ?y ?y''))"},
		{"(forall ((y E) (z E)) (and (q ?x ?y) (q ?x ?z)))", "x=(ite true ?y ?z)", "(forall ((y' E) (z' E)) (and (q (ite true ?y ?z) ?y') (q (ite true ?y ?z) ?z')))"},
		{"(exists ((y E)) (forall ((y' E)) (= ?x (f ?y))))", "x=?y", "(exists ((y' E)) (forall ((y'' E)) (= ?y (f ?y'))))"},
		{"(exists ((y E)) (forall ((y' E)) (q ?x ?y')))", "x=?y", "(exists ((y' E)) (forall ((y' E)) (q ?y ?y')))"},
		{"(exists ((y E)) (! (q ?x ?y)) (p ?y))", "x=?y", "(exists ((y' E)) (! (q ?y ?y')) (p ?y'))"},
		{"(exists ((y E)) (and (forall ((y E)) (p ?y)) (q ?x ?y)))", "x=?y", "(exists ((y' E)) (and (forall ((y E)) (p ?y)) (q ?y ?y')))"},
		{"(forall ((y E)) (forall ((z E)) (q ?x ?z)))", "x=?z", "(forall ((y E)) (forall ((z' E)) (q ?z ?z')))"},
		{"(and (forall ((x E)) (q ?x ?y)) (q ?x ?y))", "x=c y=?x", "(and (forall ((x' E)) (q ?x' ?x)) (q c ?x))"},
		{"(forall ((x E)) (q ?x ?y))", "x=?z y=c", "(forall ((x E)) (q ?x c))"},
		{"(forall ((z E)) (q ?x ?z))", "x=c y=?z", "(forall ((z E)) (q c ?z))"},
	} {
		var l []Binding
		for _, name := range []string{"x", "y", "z"} {
			if at := strings.Index(" "+c.by, " "+name+"="); at >= 0 {
				rest := c.by[at+2:]
				for _, other := range []string{" x=", " y=", " z="} {
					rest, _, _ = strings.Cut(rest, other)
				}
				l = append(l, Binding{name, of(t, rest)})
			}
		}
		got, e := Subst(of(t, c.s), l)
		if e != api.OK || shown(t, got) != c.want {
			t.Errorf("Subst(%s, %s): %v, %d, want %s", c.s, c.by, got, e, c.want)
		}
	}
	// A name that is free in the children of the quantifier is not taken.
	x := api.Terms{leaf(api.LVar, "E", "x"), leaf(api.LVar, "E", "y"), leaf(api.LVar, "E", "y'"), {Op: api.LApp, Sort: "Bool", Name: "r", Kids: []int{0, 1, 2}}, {Op: api.LForall, Sort: "Bool", Vars: []api.Bound{{Name: "y", Sort: "E"}}, Kids: []int{3}}}
	got, e := Subst(x, []Binding{{"x", Var("y", "E")}})
	if e != api.OK || shown(t, got) != "(forall ((y'' E)) (r ?y ?y'' ?y'))" {
		t.Errorf("Subst with a free name: %v, %d", got, e)
	}
	// nor one that is replaced there, by the letter of the document
	got, e = Subst(x, []Binding{{"x", Var("y", "E")}, {"y'", Var("z", "E")}})
	if e != api.OK || shown(t, got) != "(forall ((y'' E)) (r ?y ?y'' ?z))" {
		t.Errorf("Subst with a free name that is replaced: %v, %d", got, e)
	}
	got, e = Subst(x, []Binding{{"x", Var("y", "E")}, {"z", Var("y''", "E")}, {"y'", Var("y''", "E")}})
	if e != api.OK || shown(t, got) != "(forall ((y''' E)) (r ?y ?y''' ?y''))" {
		t.Errorf("Subst with a name in a replacing term: %v, %d", got, e)
	}
}

// TestSubstErrors is for P9.3: the errors of the bindings, and of the size of the result.
func TestSubstErrors(t *testing.T) {
	yes := Bool(true)
	list := func(count int) []Binding {
		var out []Binding
		for i := range count {
			out = append(out, Binding{"v" + strconv.Itoa(i), yes})
		}
		return out
	}
	for i, c := range []struct {
		l    []Binding
		want api.Errno
	}{
		{nil, api.OK}, {list(100), api.OK}, {list(101), api.ErrMany}, {[]Binding{{"", nil}}, api.ErrName}, {[]Binding{{"a b", yes}}, api.ErrName},
		{[]Binding{{"x", yes}, {"x", nil}}, api.ErrTwice}, {[]Binding{{"x", nil}, {"", yes}}, api.ErrEmpty}, {[]Binding{{"", yes}, {"x", nil}}, api.ErrName}, {[]Binding{{"x", api.Terms{is(api.LNot)}}}, api.ErrShape},
	} {
		if got, e := Subst(Bool(true), c.l); e != c.want || (len(got) == 0) != (e != api.OK) {
			t.Errorf("%d: Subst: %v, %d, want %d", i, got, e, c.want)
		}
	}
	wide := func(leaves int, leaf api.Terms) api.Terms {
		var kids []api.Terms
		for range leaves {
			kids = append(kids, leaf)
		}
		out, e := Make(api.LAnd, kids...)
		if e != api.OK {
			t.Fatalf("Make: %d", e)
		}
		return out
	}
	deep := func(nots int, x api.Terms) api.Terms {
		for range nots {
			x, _ = Make(api.LNot, x)
		}
		return x
	}
	b := Var("b", "Bool")
	for i, c := range []struct {
		term, by api.Terms
		want     api.Errno
	}{
		{wide(999, b), deep(1, yes), api.OK}, {wide(1000, b), deep(1, yes), api.ErrLarge}, {wide(1999, b), wide(1999, b), api.ErrLarge}, {wide(3, b), wide(665, b), api.OK}, {wide(3, b), wide(666, b), api.ErrLarge},
		{deep(30, b), deep(29, b), api.OK}, {deep(30, b), deep(30, b), api.ErrDeep}, {deep(59, b), deep(59, b), api.ErrDeep}, {deep(58, wide(100, b)), wide(100, b), api.ErrLarge},
	} {
		if got, e := Subst(c.term, []Binding{{"b", c.by}}); e != c.want || (len(got) == 0) != (e != api.OK) {
			t.Errorf("%d: Subst: %d nodes, %d, want %d", i, len(got), e, c.want)
		}
	}
}

// TestSame is for P9.3: all fields count, and nothing else.
func TestSame(t *testing.T) {
	x := api.Terms{leaf(api.LVar, "E", "x"), {Op: api.LForall, Sort: "Bool", Vars: []api.Bound{{Name: "x", Sort: "E"}}, Kids: []int{0}}}
	changes := []func(api.Terms){
		func(y api.Terms) { y[0].Op = -7 }, func(y api.Terms) { y[0].Sort = "" }, func(y api.Terms) { y[0].Name = "y" }, func(y api.Terms) { y[1].Vars[0].Name = "y" }, func(y api.Terms) { y[1].Vars[0].Sort = "F" },
		func(y api.Terms) { y[1].Vars = nil }, func(y api.Terms) { y[1].Kids[0] = 7 }, func(y api.Terms) { y[1].Kids = nil }, func(y api.Terms) { y[0].Kids = []int{-1} },
	}
	for i, change := range changes {
		y := moved(x, 0)
		if !Same(x, y) {
			t.Fatal("a copy is not the same")
		}
		change(y)
		if Same(x, y) || Same(y, x) || !Same(y, y) {
			t.Errorf("%d: Same(%v, %v)", i, x, y)
		}
	}
	if !Same(nil, api.Terms{}) || Same(x, x[:1]) || Same(nil, x) || !Same(api.Terms{{Kids: []int{}, Vars: []api.Bound{}}}, api.Terms{{}}) {
		t.Error("Same of lists of other lengths")
	}
}

// TestAlpha is for P9.3: bound variables are their quantifier and their position.
func TestAlpha(t *testing.T) {
	for _, c := range []struct {
		a, b string
		want bool
	}{
		{"(forall ((x E)) (p ?x))", "(forall ((z E)) (p ?z))", true},
		{"(forall ((z E)) (p ?x))", "(forall ((x E)) (p ?x))", false},
		{"(p ?x)", "(p ?y)", false},
		{"(p ?x)", "(p ?x)", true},
		{"(forall ((x E) (y E)) (q ?x ?y))", "(forall ((y E) (x E)) (q ?y ?x))", true},
		{"(forall ((x E) (y E)) (q ?x ?y))", "(forall ((x E) (y E)) (q ?y ?x))", false},
		{"(forall ((x E)) (exists ((y E)) (q ?x ?y)))", "(forall ((y E)) (exists ((x E)) (q ?y ?x)))", true},
		{"(forall ((x E)) (exists ((y E)) (q ?x ?y)))", "(forall ((x E)) (exists ((x E)) (q ?x ?x)))", false},
		{"(forall ((x E)) (exists ((y E)) (p ?y)))", "(forall ((x E)) (exists ((x E)) (p ?x)))", true},
		{"(forall ((x E)) (! (p ?x)) true)", "(forall ((y E)) (! (p ?y)) true)", true},
		{"(forall ((x E)) (! (p ?x)) true)", "(forall ((y E)) (! (p ?x)) true)", false},
		{"(forall ((x E)) (! (p ?x)) true)", "(forall ((x E)) true)", false},
		{"(forall ((x E)) true)", "(forall ((x Int)) true)", false},
		{"(forall ((x E)) true)", "(exists ((x E)) true)", false},
		{"(forall ((x E)) true)", "(forall ((x E) (y E)) true)", false},
		{"(forall ((x E)) (p c))", "(forall ((x E)) (p (f c)))", false},
	} {
		got, e := Alpha(of(t, c.a), of(t, c.b))
		back, f := Alpha(of(t, c.b), of(t, c.a))
		if got != c.want || back != c.want || e != api.OK || f != api.OK {
			t.Errorf("Alpha(%s, %s): %v, %d, %v, %d", c.a, c.b, got, e, back, f)
		}
	}
}

// distinct returns a term in which all bound variables have names that occur nowhere else.
func distinct(x api.Terms, node int, by map[string]string, count *int) api.Terms {
	n := x[node]
	if n.Op == api.LVar {
		if name, found := by[n.Name]; found {
			n.Name = name
		}
		return api.Terms{n}
	}
	inner := map[string]string{}
	for name, to := range by {
		inner[name] = to
	}
	vars := append([]api.Bound(nil), n.Vars...)
	for i := range vars {
		*count++
		inner[vars[i].Name] = "distinct" + strconv.Itoa(*count)
		vars[i].Name = inner[vars[i].Name]
	}
	var kids []api.Terms
	for _, kid := range n.Kids {
		kids = append(kids, distinct(x, kid, inner, count))
	}
	n.Vars = vars
	return joined(n, kids)
}

// put returns a term in which variables are replaced wherever they stand.
func put(x api.Terms, node int, by map[string]api.Terms) api.Terms {
	n := x[node]
	if to, found := by[n.Name]; found && n.Op == api.LVar {
		return to
	}
	var kids []api.Terms
	for _, kid := range n.Kids {
		kids = append(kids, put(x, kid, by))
	}
	return joined(n, kids)
}

// TestRandomSubst is for P9.3 and P9.6: substitution by its definition, its free variables, its sorts, and alpha-equality.
func TestRandomSubst(t *testing.T) {
	m := newMaker(t, 1)
	for range 3000 {
		x := m.formula(scope(), 4)
		l := []Binding{{"y", m.element(scope(), 2)}, {"x", m.element(scope(), 2)}, {"b", m.formula(scope(), 2)}}[m.Intn(3):]
		got, e := Subst(x, l)
		if e == api.ErrLarge || e == api.ErrDeep {
			continue
		}
		if e != api.OK {
			t.Fatalf("Subst: %d", e)
		}
		by, count := map[string]api.Terms{}, 0
		for _, b := range l {
			by[b.Name] = b.Term
		}
		renamed := distinct(x, root(x), nil, &count)
		want := put(renamed, root(renamed), by)
		if same, e := Alpha(got, want); !same || e != api.OK {
			t.Fatalf("Subst(%s, %v): %s, want %s", shown(t, x), l, shown(t, got), shown(t, want))
		}
		if sort, e := Check(example(), free(), got); sort != "Bool" || e != api.OK {
			t.Fatalf("Subst(%s): the sort %q, %d", shown(t, x), sort, e)
		}
		after, e := Subst(renamed, l)
		if same, f := Alpha(got, after); !same || e != api.OK || f != api.OK {
			t.Fatalf("Subst of %s and of %s differ", shown(t, x), shown(t, renamed))
		}
		left, _ := Free(got)
		for _, v := range left {
			if slices.ContainsFunc(l, func(b Binding) bool { return b.Name == v.Name }) && !slices.ContainsFunc(l, func(b Binding) bool {
				vars, _ := Free(b.Term)
				return slices.Contains(vars, v)
			}) {
				t.Fatalf("Subst(%s, %v): %s has the variable %v", shown(t, x), l, shown(t, got), v)
			}
		}
		// the value is that with the values of the terms in place of the variables
		w := newWorld(m.Rand)
		env := w.random(m.Rand)
		inner := map[string]int{}
		for name, v := range env {
			inner[name] = v
		}
		for _, b := range l {
			inner[b.Name] = w.value(b.Term, root(b.Term), env)
		}
		if a, b := w.value(got, root(got), env), w.value(x, root(x), inner); a != b {
			t.Fatalf("Subst(%s, %v): %s has another value", shown(t, x), l, shown(t, got))
		}
	}
}

// TestAnyTerms is for P1: no terms, signatures and strings make a function panic, and beside an error there is no result.
func TestAnyTerms(t *testing.T) {
	m := newMaker(t, 2)
	texts := []string{"", "x", "y", "E", "Bool", "Int", "1", "-1/2", "f", "c", "a b", "Seq<E>", "\xff", "'"}
	for range 6000 {
		x := m.formula(scope(), 3)
		for range m.Intn(4) {
			n := &x[m.Intn(len(x))]
			switch m.Intn(5) {
			case 0:
				n.Op = m.Intn(api.TermOps+4) - 2
			case 1:
				n.Name = texts[m.Intn(len(texts))]
			case 2:
				n.Sort = texts[m.Intn(len(texts))]
			case 3:
				n.Vars = append(n.Vars, api.Bound{Name: texts[m.Intn(len(texts))], Sort: texts[m.Intn(len(texts))]})
			default:
				n.Kids = append(n.Kids, m.Intn(len(x)+2)-1)
			}
		}
		sig := example()
		if m.Intn(3) == 0 {
			sig.Funs[m.Intn(len(sig.Funs))].Sort = texts[m.Intn(len(texts))]
		}
		y := Var("x", "E")
		a, e0 := Subst(x, []Binding{{texts[m.Intn(len(texts))], y}, {"x", x}})
		b, e1 := NNF(x)
		c, f, e2 := Skolem(x, texts[m.Intn(len(texts))])
		d, e3 := Simplify(x)
		s, e4 := Print(x)
		_, e5 := Check(sig, free(), x)
		p, _, e6 := Parse(sig, free(), s)
		v, e7 := Free(x)
		g, e8 := Make(m.Intn(api.TermOps), x, x)
		h, e9 := Quantify(api.LForall, []api.Bound{{Name: texts[m.Intn(len(texts))]}}, [][]api.Terms{{x}}, x)
		_, e10 := App(sig, texts[m.Intn(len(texts))], x)
		for i, bad := range []bool{e0 != api.OK && len(a) > 0, e1 != api.OK && len(b) > 0, e2 != api.OK && len(c)+len(f) > 0, e3 != api.OK && len(d) > 0, e4 != api.OK && s != "", e6 != api.OK && len(p) > 0, e7 != api.OK && len(v) > 0, e8 != api.OK && len(g) > 0, e9 != api.OK && len(h) > 0, e5 < 0, e10 < 0} {
			if bad {
				t.Fatalf("function %d has a result beside an error for %v", i, x)
			}
		}
	}
	r := rand.New(rand.NewSource(3))
	parts := []string{"(", ")", "(", ")", " ", "forall", "((x E))", "(! ", "!", "f", "c", "p", "and", "not", "?x", "?", "1", "-", "-1", "1/2", "=", "\n", "true", "\xff", "{"}
	for range 30000 {
		var b strings.Builder
		for range r.Intn(12) {
			b.WriteString(parts[r.Intn(len(parts))])
		}
		x, at, e := Parse(example(), free(), b.String())
		if e != api.OK && (len(x) > 0 || at < 0 || at > b.Len()) || e == api.OK && at != 0 {
			t.Fatalf("Parse(%q): %v, %d at %d", b.String(), x, e, at)
		}
	}
}
