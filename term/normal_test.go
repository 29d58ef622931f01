package term

import (
	"slices"
	"strconv"
	"strings"
	"testing"

	"entail/api"
)

// TestNNF is for P9.4: both forms of each kind of formula.
func TestNNF(t *testing.T) {
	for s, want := range map[string][2]string{
		"true":                        {"true", "false"},
		"false":                       {"false", "true"},
		"?b":                          {"?b", "(not ?b)"},
		"(p c)":                       {"(p c)", "(not (p c))"},
		"(< 1 2)":                     {"(< 1 2)", "(not (< 1 2))"},
		"(<= 1/2 ?r)":                 {"(<= 1/2 ?r)", "(not (<= 1/2 ?r))"},
		"(= ?x c)":                    {"(= ?x c)", "(not (= ?x c))"},
		"(not ?b)":                    {"(not ?b)", "?b"},
		"(not (not ?b))":              {"?b", "(not ?b)"},
		"(not true)":                  {"false", "true"},
		"(and)":                       {"(and)", "(or)"},
		"(or ?b)":                     {"(or ?b)", "(and (not ?b))"},
		"(and ?b (not (p c)) false)":  {"(and ?b (not (p c)) false)", "(or (not ?b) (p c) true)"},
		"(or (and ?b ?b) ?b)":         {"(or (and ?b ?b) ?b)", "(and (or (not ?b) (not ?b)) (not ?b))"},
		"(=> ?b (p c))":               {"(or (not ?b) (p c))", "(and ?b (not (p c)))"},
		"(iff ?b (p c))":              {"(and (or (not ?b) (p c)) (or ?b (not (p c))))", "(and (or ?b (p c)) (or (not ?b) (not (p c))))"},
		"(= ?b (p c))":                {"(and (or (not ?b) (p c)) (or ?b (not (p c))))", "(and (or ?b (p c)) (or (not ?b) (not (p c))))"},
		"(ite ?b (p c) (p ?x))":       {"(and (or (not ?b) (p c)) (or ?b (p ?x)))", "(and (or (not ?b) (not (p c))) (or ?b (not (p ?x))))"},
		"(p (ite ?b c ?x))":           {"(p (ite ?b c ?x))", "(not (p (ite ?b c ?x)))"},
		"(p (ite (=> ?b ?b) c ?x))":   {"(p (ite (=> ?b ?b) c ?x))", "(not (p (ite (=> ?b ?b) c ?x)))"},
		"(forall ((x E)) (p ?x))":     {"(forall ((x E)) (p ?x))", "(exists ((x E)) (not (p ?x)))"},
		"(exists ((x E)) (=> ?b ?b))": {"(exists ((x E)) (or (not ?b) ?b))", "(forall ((x E)) (and ?b (not ?b)))"},
		"(forall ((x E)) (! (=> ?b ?b) (p ?x)) (! c) (not (not ?b)))": {"(forall ((x E)) (! (=> ?b ?b) (p ?x)) (! c) ?b)", "(exists ((x E)) (! (=> ?b ?b) (p ?x)) (! c) (not ?b))"},
		"(not (=> (p c) (forall ((x E)) (p ?x))))":                    {"(and (p c) (exists ((x E)) (not (p ?x))))", "(or (not (p c)) (forall ((x E)) (p ?x)))"},
		"(iff (iff ?b (p c)) ?b)": {
			"(and (or (and (or ?b (p c)) (or (not ?b) (not (p c)))) ?b) (or (and (or (not ?b) (p c)) (or ?b (not (p c)))) (not ?b)))",
			"(and (or (and (or (not ?b) (p c)) (or ?b (not (p c)))) ?b) (or (and (or ?b (p c)) (or (not ?b) (not (p c)))) (not ?b)))",
		},
	} {
		x := of(t, s)
		not, e := Make(api.LNot, x)
		if e != api.OK {
			t.Fatalf("Make: %d", e)
		}
		for i, formula := range []api.Terms{x, not} {
			if got, e := NNF(formula); e != api.OK || shown(t, got) != want[i] {
				t.Errorf("NNF of %s: %v, %d, want %s", shown(t, formula), got, e, want[i])
			}
		}
	}
	for _, s := range []string{"c", "1", "?r", "(ite true 1 2)", "nil"} {
		if got, e := NNF(of(t, s)); len(got) > 0 || e != api.ErrSort {
			t.Errorf("NNF(%s): %v, %d", s, got, e)
		}
	}
}

// nested returns a formula in which a connective is nested.
func nested(t *testing.T, op, depth int) api.Terms {
	x := Var("b", "Bool")
	for range depth {
		y, e := Make(op, x, Var("b", "Bool"))
		if e != api.OK {
			t.Fatalf("Make: %d", e)
		}
		x = y
	}
	return x
}

// TestLargeForms is for P9.4: forms that are too large or too deep.
func TestLargeForms(t *testing.T) {
	// The number of nodes doubles with each equivalence: n equivalences have 2^n times both forms of a variable, and so on.
	size := func(depth int) int {
		both := [2]int{1, 2}
		for range depth {
			sum := 3 + both[0] + both[1] + 3
			both = [2]int{sum, sum}
		}
		return both[0]
	}
	for depth := range 12 {
		want := api.OK
		if size(depth) > api.MaxTerm {
			want = api.ErrLarge
		}
		for _, op := range []int{api.LIff, api.LEq} {
			if got, e := NNF(nested(t, op, depth)); e != want || e == api.OK && len(got) != size(depth) {
				t.Errorf("%d nested: %d nodes, %d, want %d, %d", depth, len(got), e, size(depth), want)
			}
		}
	}
	for _, op := range []int{api.LIff, api.LEq, api.LIff} {
		if got, e := NNF(nested(t, op, 58)); len(got) > 0 || e != api.ErrLarge {
			t.Errorf("58 nested: %d nodes, %d", len(got), e)
		}
	}
	choices := Var("b", "Bool")
	for range 31 {
		choices, _ = Make(api.LIte, Bool(true), choices, Bool(false))
	}
	if got, e := NNF(choices); len(got) > 0 || e != api.ErrDeep {
		t.Errorf("31 nested choices: %d nodes, %d", len(got), e)
	}
	not, e := Make(api.LNot, nested(t, api.LImp, 58))
	if e != api.OK {
		t.Fatalf("Make: %d", e)
	}
	if got, e := NNF(not); e != api.OK || depth(got) != 60 {
		t.Errorf("NNF of a deep formula: %d", e)
	}
}

// definition returns a form of a formula, written as the table in the document says it.
func definition(t *testing.T, x api.Terms, form int) api.Terms {
	node := func(op int, kids ...api.Terms) api.Terms { return joined(is(op), kids) }
	n := x[root(x)]
	var kids []api.Terms
	for _, kid := range n.Kids {
		k, e := Sub(x, kid)
		if e != api.OK {
			t.Fatalf("Sub: %d", e)
		}
		kids = append(kids, k)
	}
	the := func(i, form int) api.Terms { return definition(t, kids[i], form) }
	switch {
	case n.Op == api.LTrue || n.Op == api.LFalse:
		return Bool((n.Op == api.LTrue) == (form == positive))
	case n.Op == api.LNot:
		return the(0, 1-form)
	case n.Op == api.LAnd || n.Op == api.LOr:
		var out []api.Terms
		for i := range kids {
			out = append(out, the(i, form))
		}
		return node([]int{n.Op, api.LAnd + api.LOr - n.Op}[form], out...)
	case n.Op == api.LImp && form == positive:
		return node(api.LOr, the(0, negative), the(1, positive))
	case n.Op == api.LImp:
		return node(api.LAnd, the(0, positive), the(1, negative))
	case n.Op == api.LIff || n.Op == api.LEq && kids[0][root(kids[0])].Sort == "Bool":
		if form == positive {
			return node(api.LAnd, node(api.LOr, the(0, negative), the(1, positive)), node(api.LOr, the(0, positive), the(1, negative)))
		}
		return node(api.LAnd, node(api.LOr, the(0, positive), the(1, positive)), node(api.LOr, the(0, negative), the(1, negative)))
	case n.Op == api.LIte:
		return node(api.LAnd, node(api.LOr, the(0, negative), the(1, form)), node(api.LOr, the(0, positive), the(2, form)))
	case isQuantifier(n.Op):
		n.Op = []int{n.Op, api.LForall + api.LExists - n.Op}[form]
		return joined(n, append(slices.Clone(kids[:len(kids)-1]), the(len(kids)-1, form)))
	case form == negative:
		return node(api.LNot, x)
	}
	return x
}

// TestRandomForms is for P9.4 and P9.6: forms and simplified terms have the same value, their sort, and no new free variables; negations stand in front of atoms.
func TestRandomForms(t *testing.T) {
	m := newMaker(t, 4)
	for range 3000 {
		x := m.formula(scope(), 4)
		results := map[string]api.Terms{}
		if got, e := NNF(x); e == api.OK {
			results["NNF"] = got
			if want := definition(t, x, positive); !Same(got, want) {
				t.Fatalf("NNF of %s: %s, want %s", shown(t, x), shown(t, got), shown(t, want))
			}
			for _, n := range got {
				if n.Op == api.LNot && !isAtom(got, n.Kids[0]) && !within(got, n) {
					t.Fatalf("NNF of %s: %s", shown(t, x), shown(t, got))
				}
			}
		} else if e != api.ErrLarge && e != api.ErrDeep {
			t.Fatalf("NNF of %s: %d", shown(t, x), e)
		}
		got, e := Simplify(x)
		if e != api.OK || len(got) > len(x) {
			t.Fatalf("Simplify of %s: %d", shown(t, x), e)
		}
		results["Simplify"] = got
		if again, e := Simplify(got); e != api.OK || !Same(got, again) {
			t.Fatalf("Simplify of %s: %s, and again %s", shown(t, x), shown(t, got), shown(t, again))
		}
		for name, y := range results {
			if sort, e := Check(example(), scope(), y); sort != "Bool" || e != api.OK {
				t.Fatalf("%s of %s: the sort %q, %d", name, shown(t, x), sort, e)
			}
			before, _ := Free(x)
			after, _ := Free(y)
			for _, v := range after {
				if !slices.Contains(before, v) {
					t.Fatalf("%s of %s: the new variable %v", name, shown(t, x), v)
				}
			}
			for range 4 {
				w := newWorld(m.Rand)
				env := w.random(m.Rand)
				if w.value(x, root(x), env) != w.value(y, root(y), env) {
					t.Fatalf("%s of %s: %s has another value", name, shown(t, x), shown(t, y))
				}
			}
		}
	}
}

// isAtom reports whether a node is a formula that has no connective, no quantifier and no Bool constant at the top.
func isAtom(x api.Terms, node int) bool {
	n := x[node]
	return n.Op == api.LApp || n.Op == api.LVar || n.Op == api.LLt || n.Op == api.LLe || n.Op == api.LEq && x[n.Kids[0]].Sort != "Bool"
}

// within reports whether a node is inside of an atom or a trigger.
func within(x api.Terms, n api.Term) bool {
	inside := make([]bool, len(x))
	for i := len(x) - 1; i >= 0; i-- {
		for _, kid := range x[i].Kids {
			inside[kid] = inside[i] || isAtom(x, i) || x[i].Op == api.LTrigger
		}
		if inside[i] && x[i].Op == n.Op && slices.Equal(x[i].Kids, n.Kids) {
			return true
		}
	}
	return false
}

// TestSkolem is for P9.4: the new functions, their names, arguments and places.
func TestSkolem(t *testing.T) {
	for _, c := range []struct {
		s, want string
		funs    []api.Fun
	}{
		{"(p c)", "(p c)", nil},
		{"(not (=> (p c) (forall ((x E)) (p ?x))))", "(and (p c) (not (p k0)))", []api.Fun{fun("k0", "E")}},
		{"(exists ((x E)) (p ?x))", "(p k0)", []api.Fun{fun("k0", "E")}},
		{"(exists ((u E) (v Int)) (and (p ?u) (< ?v 1) (q ?u ?x)))", "(and (p k0) (< k1 1) (q k0 ?x))", []api.Fun{fun("k0", "E"), fun("k1", "Int")}},
		{"(forall ((u E)) (exists ((v E)) (q ?u ?v)))", "(forall ((u E)) (q ?u (k0 ?u)))", []api.Fun{fun("k0", "E", "E")}},
		{"(forall ((u E) (i Int)) (forall ((w Bool)) (exists ((v E)) (q ?u ?v))))", "(forall ((u E) (i Int)) (forall ((w Bool)) (q ?u (k0 ?u ?i ?w))))", []api.Fun{fun("k0", "E", "Int", "Bool", "E")}},
		{"(exists ((u E)) (forall ((v E)) (exists ((w E)) (and (q ?u ?v) (q ?v ?w)))))", "(forall ((v E)) (and (q k1 ?v) (q ?v (k0 ?v))))", []api.Fun{fun("k0", "E", "E"), fun("k1", "E")}},
		{"(exists ((u E)) (exists ((v Int)) (and (p ?u) (< ?v 1))))", "(and (p k1) (< k0 1))", []api.Fun{fun("k0", "Int"), fun("k1", "E")}},
		{"(or (exists ((u E)) (p ?u)) (exists ((u E)) (p ?u)))", "(or (p k0) (p k1))", []api.Fun{fun("k0", "E"), fun("k1", "E")}},
		{"(exists ((u E)) true)", "true", []api.Fun{fun("k0", "E")}},
		{"(exists ((u E)) (! (p ?u)) (p ?u))", "(p k0)", []api.Fun{fun("k0", "E")}},
		{"(exists ((u E)) (forall ((v E)) (! (q ?u ?v)) (p ?v)))", "(forall ((v E)) (! (q k0 ?v)) (p ?v))", []api.Fun{fun("k0", "E")}},
		{"(forall ((v E)) (! (exists ((u E)) (p ?u))) (exists ((w E)) (q ?v ?w)))", "(forall ((v E)) (! (exists ((u E)) (p ?u))) (q ?v (k0 ?v)))", []api.Fun{fun("k0", "E", "E")}},
		{"(p (ite (exists ((u E)) (p ?u)) c ?x))", "(p (ite (exists ((u E)) (p ?u)) c ?x))", nil},
		{"(exists ((v E)) (p (ite (exists ((u E)) (q ?u ?v)) c ?v)))", "(p (ite (exists ((u E)) (q ?u k0)) c k0))", []api.Fun{fun("k0", "E")}},
		{"(not (p (ite (forall ((u E)) (p ?u)) c ?x)))", "(not (p (ite (forall ((u E)) (p ?u)) c ?x)))", nil},
		{"(iff ?b (forall ((u E)) (p ?u)))", "(and (or (not ?b) (forall ((u E)) (p ?u))) (or ?b (not (p k0))))", []api.Fun{fun("k0", "E")}},
	} {
		got, funs, e := Skolem(of(t, c.s), "k")
		if e != api.OK || shown(t, got) != c.want || !slices.EqualFunc(funs, c.funs, func(a, b api.Fun) bool {
			return a.Name == b.Name && a.Sort == b.Sort && slices.Equal(a.Args, b.Args)
		}) {
			t.Errorf("Skolem(%s): %v, %v, %d, want %s", c.s, got, funs, e, c.want)
		}
	}
}

// TestSkolemErrors is for P9.4: the errors, in their order.
func TestSkolemErrors(t *testing.T) {
	hidden := "(forall ((u E)) (exists ((u E)) (p ?u)))"
	wide := func(count int) string {
		return "(exists ((u E)) (and" + strings.Repeat(" (p ?u)", count) + "))"
	}
	under := func(s string, count int) string {
		vars := ""
		for i := range count {
			vars += "(w" + strconv.Itoa(i) + " E) "
		}
		return "(forall (" + vars + ") " + s + ")"
	}
	for _, c := range []struct {
		s, prefix string
		want      api.Errno
	}{
		{"c", "", api.ErrSort},
		{hidden, "k", api.ErrTwice},
		{hidden, "", api.ErrTwice},
		{"(forall ((u E) (v E)) (or ?b (forall ((w E) (v Int)) true)))", "k", api.ErrTwice},
		{"(forall ((u E)) (p (ite (exists ((u E)) true) c c)))", "k", api.ErrTwice},
		{"(forall ((u E)) (! (exists ((u E)) true)) true)", "k", api.ErrTwice},
		{"(and (forall ((u E)) (p ?u)) (exists ((u E)) (p ?u)))", "k", api.OK},
		{"(forall ((x E)) (q ?x ?y))", "k", api.OK},
		{"true", "", api.ErrName},
		{"true", "1", api.ErrName},
		{"true", "-", api.ErrName},
		{"true", "?k", api.ErrName},
		{"true", "a b", api.ErrName},
		{"true", "a{", api.ErrName},
		{"true", strings.Repeat("k", 199), api.OK},
		{"true", strings.Repeat("k", 200), api.ErrName},
		{"true", "tru", api.OK},
		{"(exists ((u E)) (p ?u))", "and", api.OK},
		{wide(999), "k", api.OK},
		{under(wide(666), 1), "k", api.OK},
		{under(wide(667), 1), "k", api.ErrLarge},
		{under(wide(998), 12), "k", api.ErrLarge},
		{under("(exists ((u E)) (p ?u))", 12), "k", api.OK},
	} {
		got, funs, e := Skolem(of(t, c.s), c.prefix)
		if e != c.want || e != api.OK && len(got)+len(funs) > 0 {
			t.Errorf("Skolem(%.80s, %.20q): %d, want %d", c.s, c.prefix, e, c.want)
		}
	}
	if _, _, e := Skolem(nested(t, api.LIff, 50), ""); e != api.ErrLarge {
		t.Errorf("Skolem of a formula whose normal form is too large: %d", e)
	}
	// An existential quantifier is removed, and the new applications are as deep at most.
	deep := "(exists ((u E)) (p " + strings.Repeat("(f ", 55) + "?u" + strings.Repeat(")", 55) + "))"
	for s, want := range map[string]int{deep: 57, "(forall ((v E)) " + deep + ")": 59, "(forall ((v E)) (and " + deep + "))": 60} {
		if got, _, e := Skolem(of(t, s), "k"); e != api.OK || depth(got) != want {
			t.Errorf("Skolem(%.40s): %d, want the depth %d", s, e, want)
		}
	}
	// The names of functions that the term has are not taken.
	sig := example()
	sig.Funs = append(sig.Funs, fun("k1", "E"), fun("k2", "E"))
	for s, want := range map[string]api.Errno{
		"(and (p k1) (exists ((u E)) (p ?u)))":       api.OK,
		"(and (p k1) (exists ((u E) (v E)) (p ?u)))": api.ErrTwice,
		"(exists ((u E) (v E)) (q ?u k2))":           api.OK,
		"(exists ((u E) (v E) (w E)) (q ?u k2))":     api.ErrTwice,
	} {
		x, _, e := Parse(sig, nil, s)
		if e != api.OK {
			t.Fatalf("Parse(%s): %d", s, e)
		}
		if _, _, e := Skolem(x, "k"); e != want {
			t.Errorf("Skolem(%s): %d, want %d", s, e, want)
		}
	}
}

// TestRandomSkolem is for P9.4 and P9.6: a Skolem form is well-sorted with its new functions, has no existential quantifiers outside of atoms, and implies the formula.
func TestRandomSkolem(t *testing.T) {
	m := newMaker(t, 5)
	m.names = []string{"a", "d", "e", "h", "j", "k", "l", "o", "s", "t", "u", "v", "w"}
	done := 0
	for range 4000 {
		x := m.formula(scope(), 4)
		got, funs, e := Skolem(x, "new")
		if e != api.OK {
			if e != api.ErrTwice && e != api.ErrLarge && e != api.ErrDeep {
				t.Fatalf("Skolem of %s: %d", shown(t, x), e)
			}
			continue
		}
		done++
		sig := example()
		sig.Funs = append(sig.Funs, funs...)
		if sort, e := Check(sig, scope(), got); sort != "Bool" || e != api.OK {
			t.Fatalf("Skolem of %s: %s of the sort %q, %d", shown(t, x), shown(t, got), sort, e)
		}
		open := opened(got)
		for i, n := range got {
			if n.Op == api.LExists && open[i] {
				t.Fatalf("Skolem of %s: %s", shown(t, x), shown(t, got))
			}
		}
		for range 3 {
			w := newWorld(m.Rand)
			for _, f := range funs {
				seed := m.Intn(1 << 20)
				w.more[f.Name] = func(args []int) int {
					place := 0
					for _, a := range args {
						place = 2*place + a
					}
					return seed >> (place % 20) & 1
				}
			}
			env := w.random(m.Rand)
			if w.value(got, root(got), env) > w.value(x, root(x), env) {
				t.Fatalf("Skolem of %s: %s does not imply it", shown(t, x), shown(t, got))
			}
		}
	}
	if done < 500 {
		t.Errorf("only %d formulas", done)
	}
}

// TestSimplify is for P9.4: each rule, from the leaves to the root.
func TestSimplify(t *testing.T) {
	big := strings.Repeat("9", 120)
	for s, want := range map[string]string{
		"(not true)": "false", "(not false)": "true", "(not (not ?b))": "?b", "(not ?b)": "(not ?b)", "(not (not (not ?b)))": "(not ?b)",
		"(and)": "true", "(or)": "false", "(and ?b)": "?b", "(or ?b)": "?b", "(and true true)": "true", "(or false)": "false", "(and ?b true (p c))": "(and ?b (p c))", "(or ?b false (p c))": "(or ?b (p c))",
		"(and ?b false)": "false", "(or ?b true)": "true", "(and ?b ?b)": "(and ?b ?b)", "(and true ?b)": "?b", "(and (and ?b (p c)) ?b)": "(and (and ?b (p c)) ?b)",
		"(and true (or (p c) false) (= c c))": "(p c)",
		"(=> true ?b)":                        "?b", "(=> false ?b)": "true", "(=> ?b true)": "true", "(=> ?b false)": "(not ?b)", "(=> (not ?b) false)": "?b", "(=> true false)": "false", "(=> false false)": "true", "(=> ?b ?b)": "(=> ?b ?b)", "(=> true true)": "true",
		"(iff true ?b)": "?b", "(iff ?b true)": "?b", "(iff false ?b)": "(not ?b)", "(iff ?b false)": "(not ?b)", "(iff (not ?b) false)": "?b", "(iff ?b ?b)": "true", "(iff false false)": "true", "(iff true false)": "false", "(iff ?b (p c))": "(iff ?b (p c))", "(iff (p ?x) (p ?y))": "(iff (p ?x) (p ?y))",
		"(ite true ?x c)": "?x", "(ite false ?x c)": "c", "(ite ?b c c)": "c", "(ite ?b ?x c)": "(ite ?b ?x c)", "(ite ?b true false)": "(ite ?b true false)",
		"(= c c)": "true", "(= 1 1)": "true", "(= 1 2)": "false", "(= 1/2 1/3)": "false", "(= 1 n)": "(= 1 n)", "(= n 1)": "(= n 1)", "(< n 1)": "(< n 1)", "(+ 0 n)": "(+ 0 n)", "(= ?b true)": "(= ?b true)", "(= true true)": "true", "(= true false)": "(= true false)", "(= ?b false)": "(= ?b false)", "(= (+ 1 1) 2)": "true",
		"(+ 2 3)": "5", "(- 2 3)": "-1", "(* -2 3)": "-6", "(+ 1/2 1/2)": "1/1", "(- 1/2 1/3)": "1/6", "(* 1/2 2/3)": "1/3", "(+ n 0)": "(+ n 0)", "(* n 0)": "(* n 0)", "(- n n)": "(- n n)",
		"(+ (+ 1 2) (* 2 2))": "7", "(< 1 2)": "true", "(< 2 2)": "false", "(<= 2 2)": "true", "(<= 3 2)": "false", "(< 1/3 1/2)": "true", "(<= 1/2 1/3)": "false", "(< -1/2 -1/3)": "true", "(< n n)": "(< n n)", "(<= n n)": "(<= n n)", "(< (+ 2 3) 5)": "false",
		"(+ " + big + " 1)": "(+ " + big + " 1)", "(* " + big + " 1)": big, "(- -" + big + " 1)": "(- -" + big + " 1)", "(< (+ " + big + " 1) 1)": "(< (+ " + big + " 1) 1)",
		"(forall ((x E)) (or true (p ?x)))": "true", "(exists ((x E)) (and))": "true", "(exists ((x E)) (= 1 2))": "false", "(forall ((x E)) (! (f ?x)) (not true))": "false", "(forall ((x E)) (p ?x))": "(forall ((x E)) (p ?x))",
		"(forall ((x E)) (! (and (p ?x))) (or (p ?x)))": "(forall ((x E)) (! (p ?x)) (p ?x))", "(forall ((x E)) (! (+ 1 1) (p ?x)) (p ?x))": "(forall ((x E)) (! 2 (p ?x)) (p ?x))",
		"(p (ite (= 1 2) ?x (f c)))": "(p (f c))", "(g (+ 1 1) c)": "(g 2 c)", "?b": "?b", "c": "c", "true": "true", "(not (forall ((x E)) (and)))": "false", "(exists ((x E)) (forall ((y E)) (=> false (q ?x ?y))))": "true",
	} {
		if got, e := Simplify(of(t, s)); e != api.OK || shown(t, got) != want {
			t.Errorf("Simplify(%.60s): %v, %d, want %s", s, got, e, want)
		}
	}
}

// TestTermMemory is for the rule on memory: results share none with their arguments.
func TestTermMemory(t *testing.T) {
	x := of(t, "(forall ((x E) (y E)) (! (q ?x ?z)) (and ?b (q ?x ?y)))")
	before := moved(x, 0)
	vars := []api.Bound{{Name: "v", Sort: "E"}}
	for i, result := range []func() (api.Terms, api.Errno){
		func() (api.Terms, api.Errno) { return Simplify(x) },
		func() (api.Terms, api.Errno) { return NNF(x) },
		func() (api.Terms, api.Errno) { y, _, e := Skolem(x, "k"); return y, e },
		func() (api.Terms, api.Errno) { return Subst(x, nil) },
		func() (api.Terms, api.Errno) { return Subst(Var("b", "Bool"), []Binding{{"b", x}}) },
		func() (api.Terms, api.Errno) { return Sub(x, len(x)-1) },
		func() (api.Terms, api.Errno) { return Make(api.LNot, x) },
		func() (api.Terms, api.Errno) { return Quantify(api.LForall, vars, [][]api.Terms{{x}}, x) },
	} {
		y, e := result()
		if e != api.OK {
			t.Fatalf("%d: %d", i, e)
		}
		for _, n := range y {
			for j := range n.Kids {
				n.Kids[j] = -7
			}
			for j := range n.Vars {
				n.Vars[j].Name = "changed"
			}
		}
		if !Same(x, before) || vars[0].Name != "v" {
			t.Fatalf("%d: the argument is changed", i)
		}
	}
	sig := example()
	f, _ := Function(sig, "g")
	f.Args[0] = "changed"
	if CheckSignature(sig) != api.OK {
		t.Error("the signature is changed")
	}
}
