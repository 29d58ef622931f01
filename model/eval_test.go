package model

import (
	"slices"
	"strconv"
	"strings"
	"testing"

	"entail/api"
	"entail/num"
	"entail/term"
)

// evaluated returns the value of a term that has one.
func evaluated(t *testing.T, sig api.Signature, m Model, l []Assigned, x api.Terms) api.Value {
	t.Helper()
	v, e := Eval(sig, m, l, x)
	if e != api.OK {
		s, _ := term.Print(x)
		t.Fatalf("Eval of %s: %d", s, e)
	}
	return v
}

// TestEval is for P12.2: the values of terms in the model of the document.
func TestEval(t *testing.T) {
	sig, m := sigG(), exampleModel()
	m.Domains = []Domain{{"Int", numbers(1, 3)}, {"L", []api.Value{cons("nil"), cons("cons", ref(1), cons("nil"))}}}
	vars := []api.Bound{{Name: "x", Sort: "E"}, {Name: "n", Sort: "Int"}, {Name: "b", Sort: "Bool"}, {Name: "s", Sort: "Seq<E>"}, {Name: "q", Sort: "Real"}}
	l := []Assigned{{"x", ref(1)}, {"n", integer("-4")}, {"b", truth(true)}, {"s", seq(ref(0))}, {"unused", api.Value{Kind: -7}}, {"q", fraction("1/2")}}
	for text, want := range map[string]string{
		"(p (f c))": "true", "(p c)": "false", "(f (f c))": "_!0", "?x": "_!1", "(p ?x)": "true", "?n": "-4", "?s": "[_!0]",
		"true": "true", "false": "false", "-7": "-7", "-7/2": "-7/2",
		"(not true)": "false", "(not ?b)": "false", "(and)": "true", "(or)": "false", "(and ?b)": "true", "(or false)": "false", "(and true false)": "false", "(and true true true)": "true", "(or false true)": "true", "(or false false)": "false",
		"(=> true true)": "true", "(=> true false)": "false", "(=> false true)": "true", "(=> false false)": "true",
		"(iff true true)": "true", "(iff true false)": "false", "(iff false true)": "false", "(iff false false)": "true",
		"(ite true 1 2)": "1", "(ite false 1 2)": "2", "(ite ?b ?x c)": "_!1", "(ite ?b false true)": "false",
		"(= c ?x)": "false", "(= (f c) ?x)": "true", "(= true false)": "false", "(= false false)": "true", "(= nil (cons c nil))": "false", "(= (cons ?x nil) (cons (f c) nil))": "true", "(= 1/2 ?q)": "true",
		"(+ 2 3)": "5", "(- 2 3)": "-1", "(* 2 -3)": "-6", "(+ ?n 1)": "-3", "(+ 1/2 1/3)": "5/6", "(- 1/2 1/3)": "1/6", "(* 1/2 -2/3)": "-1/3",
		"(< 2 3)": "true", "(< 3 3)": "false", "(< 10 9)": "false", "(<= 3 3)": "true", "(<= 4 3)": "false", "(<= -10 -9)": "true", "(< 1/3 1/2)": "true", "(< 1/2 1/2)": "false", "(<= 1/2 1/2)": "true", "(<= 2/3 1/2)": "false",
		"(forall ((y E)) (= (f (f ?y)) ?y))": "true", "(exists ((y E)) (and (p ?y) (= ?y c)))": "false", "(exists ((y E)) (p ?y))": "true", "(forall ((y E)) (p ?y))": "false",
		"(forall ((y Int)) (< 0 ?y))": "true", "(exists ((y Int)) (= ?y 0))": "false", "(exists ((y Int)) (= ?y 3))": "true", "(forall ((y Int)) (< ?y 3))": "false", "(exists ((y Real)) (= ?y 0/1))": "true", "(forall ((y Real)) (= ?y 0/1))": "true", "(exists ((y Seq<E>)) (not (= ?y empty$Seq<E>)))": "false",
		"(exists ((y L)) (is$cons ?y))": "true", "(forall ((y L)) (not (p (head ?y))))": "false",
		"(forall ((y E) (z E)) (or (= ?y ?z) (= ?y (f ?z))))": "true", "(exists ((y E) (z Bool)) (= ?z (p ?y)))": "true", "(exists ((x E)) (= ?x c))": "true", "(and (exists ((x E)) (= ?x c)) (p ?x))": "true",
		"(forall ((x E)) (exists ((x E)) (p ?x)))": "true", "(forall ((y E)) (exists ((z E)) (and (= ?z (f ?y)) (forall ((y Bool)) (or ?y (not ?y))))))": "true", "(exists ((y E)) (and (forall ((y E)) (= (f (f ?y)) ?y)) (p ?y)))": "true",
		"(forall ((y E)) (! (f ?y)) (! (p ?y) (f (f ?y))) (= ?y ?y))": "true", "(exists ((m Map<E,Bool>)) (= (select$Map<E,Bool> ?m c) true))": "true", "(forall ((m Map<E,Bool>)) (= (select$Map<E,Bool> ?m c) true))": "false",
	} {
		v := evaluated(t, sig, m, l, readTerm(t, sig, vars, text))
		if shown(v) != want {
			t.Errorf("Eval of %s: %s, want %s", text, shown(v), want)
		}
	}
	for text, want := range map[string]bool{"(p (f c))": true, "(p c)": false, "(exists ((y E)) (p ?y))": true, "true": true, "false": false} {
		if is, e := Holds(sig, m, readTerm(t, sig, nil, text)); is != want || e != api.OK {
			t.Errorf("Holds of %s: %v, %d", text, is, e)
		}
	}
}

// TestEvalErrors is for P12.2: the errors of variables and terms, in their order.
func TestEvalErrors(t *testing.T) {
	sig, m := sigG(), exampleModel()
	many := func(n int) []Assigned {
		var out []Assigned
		for i := range n {
			out = append(out, Assigned{"v" + strconv.Itoa(i), api.Value{Kind: -1}})
		}
		return out
	}
	vars := []api.Bound{{Name: "x", Sort: "E"}, {Name: "y", Sort: "Int"}}
	read := func(text string) api.Terms { return readTerm(t, sig, vars, text) }
	wrong := api.Terms{{Op: api.LVar, Name: "x", Sort: "G"}}
	twice := api.Terms{{Op: api.LVar, Name: "x", Sort: "E"}, {Op: api.LVar, Name: "x", Sort: "Int"}, {Op: api.LEq, Sort: "Bool", Kids: []int{0, 1}}}
	for i, c := range []struct {
		l    []Assigned
		term api.Terms
		want api.Errno
	}{
		{many(100), read("c"), api.OK},
		{append(many(100), Assigned{"a b", ref(0)}), nil, api.ErrMany},
		{[]Assigned{{"x", ref(0)}, {"a b", ref(0)}, {"x", ref(0)}}, nil, api.ErrName},
		{[]Assigned{{"x", ref(0)}, {"x", ref(0)}, {"", ref(0)}}, nil, api.ErrTwice},
		{[]Assigned{{"", ref(0)}}, nil, api.ErrName},
		{[]Assigned{{strings.Repeat("x", 201), ref(0)}}, nil, api.ErrName},
		{[]Assigned{{strings.Repeat("x", 200), ref(0)}}, read("c"), api.OK},
		{[]Assigned{{"-1?!=", ref(0)}}, read("c"), api.OK},
		{nil, nil, api.ErrEmpty},
		{[]Assigned{{"x", ref(0)}}, api.Terms{{Op: -1}}, api.ErrKind},
		{[]Assigned{{"y", integer("1")}}, read("(cons ?x nil)"), api.ErrUnknown},
		{nil, append(api.Terms{{Op: api.LVar, Name: "x", Sort: "E"}}, api.Term{Op: api.LApp, Name: "g", Sort: "E", Kids: []int{0}}), api.ErrUnknown},
		{[]Assigned{{"x", ref(0)}}, api.Terms{{Op: api.LVar, Name: "x", Sort: "E"}, {Op: api.LApp, Name: "g", Sort: "E", Kids: []int{0}}}, api.ErrUnknown},
		{[]Assigned{{"x", ref(9)}}, api.Terms{{Op: api.LVar, Name: "x", Sort: "E"}, {Op: api.LApp, Name: "c", Sort: "E", Kids: []int{0}}}, api.ErrArgs},
		{[]Assigned{{"x", ref(9)}}, wrong, api.ErrSort},
		{[]Assigned{{"x", ref(9)}}, twice, api.ErrSort},
		{[]Assigned{{"x", ref(2)}}, read("?x"), api.ErrType},
		{[]Assigned{{"x", integer("1")}}, read("(p ?x)"), api.ErrType},
		{[]Assigned{{"x", ref(0)}, {"y", ref(0)}}, read("(and (p ?x) (= ?y 1))"), api.ErrType},
		{[]Assigned{{"x", ref(9)}}, read("(forall ((x E)) (p ?x))"), api.OK},
		{[]Assigned{{"x", ref(9)}}, read("(+ 1 2)"), api.OK},
	} {
		v, e := Eval(sig, m, c.l, c.term)
		if e != c.want || e != api.OK && !isNothing(v) {
			t.Errorf("%d: Eval: %s, %d, want %d", i, shown(v), e, c.want)
		}
		if len(c.l) > 0 {
			continue
		}
		if is, e := Holds(sig, m, c.term); is || e != c.want {
			t.Errorf("%d: Holds: %v, %d, want %d", i, is, e, c.want)
		}
	}
	for text, want := range map[string]api.Errno{"c": api.ErrSort, "(+ 1 2)": api.ErrSort, "?x": api.ErrUnknown, "(p ?x)": api.ErrUnknown, "(* 1" + strings.Repeat("0", 70) + " 1" + strings.Repeat("0", 70) + ")": api.ErrSort} {
		if is, e := Holds(sig, m, read(text)); is || e != want {
			t.Errorf("Holds of %s: %v, %d, want %d", text, is, e, want)
		}
	}
}

// TestEvalLarge is for P12.2: numbers and results that are too large; all children are evaluated, a quantifier until its value is known.
func TestEvalLarge(t *testing.T) {
	sig, m := sigG(), exampleModel()
	great := strings.Repeat("9", 120)
	for text, want := range map[string]api.Errno{
		"(= 0 (+ " + great + " 1))":                                                 api.ErrLarge,
		"(= 0 (- -" + great + " 1))":                                                api.ErrLarge,
		"(= 0 (* " + great + " 10))":                                                api.ErrLarge,
		"(= 0 (- " + great + " 1))":                                                 api.OK,
		"(= 0/1 (+ " + great + "/1 1/1))":                                           api.ErrLarge,
		"(= 0/1 (* 1/" + great + " 1/2))":                                           api.ErrLarge,
		"(< " + great + " -" + great + ")":                                          api.OK,
		"(and false (= 0 (+ " + great + " 1)))":                                     api.ErrLarge,
		"(or true (= 0 (+ " + great + " 1)))":                                       api.ErrLarge,
		"(=> false (= 0 (+ " + great + " 1)))":                                      api.ErrLarge,
		"(ite true true (= 0 (+ " + great + " 1)))":                                 api.ErrLarge,
		"(ite false (= 0 (+ " + great + " 1)) true)":                                api.ErrLarge,
		"(exists ((b Bool)) (= 0 (+ " + great + " 1)))":                             api.ErrLarge,
		"(exists ((b Bool)) (or (not ?b) (= 0 (+ " + great + " 1))))":               api.ErrLarge,
		"(forall ((b Bool)) (= 0 (ite ?b (+ " + great + " (ite ?b 1 0)) 1)))":       api.OK, // false for the first value
		"(exists ((b Bool)) (= 1 (+ " + great + " (ite ?b 1 -" + great[1:] + "))))": api.ErrLarge,
		"(forall ((x E)) (! (+ " + great + " 1)) (= ?x ?x))":                        api.OK, // triggers are not evaluated
	} {
		if _, e := Holds(sig, m, readTerm(t, sig, nil, text)); e != want {
			t.Errorf("Holds of %.60s: %d, want %d", text, e, want)
		}
	}
	var long strings.Builder
	long.WriteString("(one$Seq<Int> 1)")
	for range 8 {
		s := long.String()
		long.Reset()
		long.WriteString("(cat$Seq<Int> " + s + " " + s + ")")
		if len(s) > 7000 {
			break
		}
	}
	if _, e := Holds(sig, m, readTerm(t, sig, nil, "(< 0 (len$Seq<Int> "+long.String()+"))")); e != api.ErrLarge {
		t.Errorf("Holds of a sequence of 256 items: %d", e)
	}
}

// TestUnfit is for P12.2: a quantifier that ranges over a zero which is no value.
func TestUnfit(t *testing.T) {
	sig := tower(4, 20) // the zero of D0 has 8421 values
	for text, want := range map[string]api.Errno{
		"(forall ((x D0)) (= ?x ?x))":                                   api.OK,
		"(forall ((x D0)) (= ?x (ite true ?x ?x)))":                     api.OK,
		"(forall ((x D0)) (is$c0 ?x))":                                  api.ErrType,
		"(forall ((x D0) (y D1)) (is$c1 ?y))":                           api.OK,
		"(forall ((x D0)) (is$c1 (f0_3 ?x)))":                           api.ErrType,
		"(= 0 (len$Seq<D0> empty$Seq<D0>))":                             api.OK,
		"(= (at$Seq<D0> empty$Seq<D0> 0) (at$Seq<D0> empty$Seq<D0> 0))": api.ErrLarge,
	} {
		if is, e := Holds(sig, Model{}, readTerm(t, sig, nil, text)); e != want || is != (e == api.OK) {
			t.Errorf("Holds of %s: %v, %d, want %d", text, is, e, want)
		}
	}
}

// TestSteps is for P12.2: 200000 steps are permitted. A quantifier of seven variables with 3 values each evaluates its body 2187 times, with one step for each node of it.
func TestSteps(t *testing.T) {
	sig := sigOf("E", nil, nil)
	m := firstModel(t, sig, 3)
	steps := func(inner, outer int) api.Terms { // two and some more steps, and 2187 times those of the body
		x := term.Bool(true)
		if inner > 0 {
			x, _ = term.Make(api.LAnd, slices.Repeat([]api.Terms{x}, inner)...)
		}
		var vars []api.Bound
		for i := range 7 {
			vars = append(vars, api.Bound{Name: "x" + strconv.Itoa(i), Sort: "E"})
		}
		body, _ := term.Quantify(api.LForall, vars, nil, x)
		out, _ := term.Make(api.LAnd, append(slices.Repeat([]api.Terms{term.Bool(true)}, outer), body)...)
		return out
	}
	for _, c := range []struct {
		inner, outer int
	}{{0, 0}, {89, 0}, {90, 0}, {90, 979}, {90, 980}, {90, 981}, {91, 0}} {
		body := 1
		if c.inner > 0 {
			body = 1 + c.inner
		}
		count := 1 + c.outer + 1 + 2187*body
		want := api.OK
		if count > 200000 {
			want = api.ErrLimit
		}
		if is, e := Holds(sig, m, steps(c.inner, c.outer)); e != want || is != (e == api.OK) {
			t.Errorf("Holds of %d steps: %v, %d", count, is, e)
		}
	}
	exactly := func(count int) api.Terms { // a term of that many steps
		inner := (count-2)/2187 - 1
		return steps(inner, count-2-2187*(1+inner))
	}
	for count := 199998; count <= 200003; count++ {
		p := plain{sig: sig, m: m, definition: newDefinition(sig, 3), env: map[string]api.Value{}}
		x := exactly(count)
		p.value(x, len(x)-1)
		if _, e := Holds(sig, m, x); (e == api.OK) != (count <= 200000) || e != api.OK && e != api.ErrLimit || p.steps != min(count, 200001) {
			t.Errorf("Holds of %d steps: %d, counted %d", count, e, p.steps)
		}
	}
	if is, e := Holds(sig, m, readTerm(t, sig, nil, "(exists ((a E) (b E) (c E) (d E) (e E) (f E) (g E) (h E) (i E) (j E) (k E) (l E)) true)")); !is || e != api.OK { // until the value is known
		t.Errorf("Holds of many values: %v, %d", is, e)
	}
}

// TestExact is for P12.2: whether all variables of quantifiers have small sorts in each model.
func TestExact(t *testing.T) {
	sig := wideSig()
	for text, want := range map[string]bool{
		"c": true, "true": true, "(+ 1 2)": true, "(forall ((x E)) (p ?x ?y))": true, "(forall ((x Int)) (= ?x ?x))": false, "(forall ((x E) (y Real)) true)": false, "(exists ((x L)) true)": false,
		"(forall ((x Set<E>)) true)": true, "(forall ((x Map<E,Bool>)) true)": true, "(forall ((x Map<E,E>)) true)": true, "(forall ((x Map<Set<E>,Bool>)) true)": false, "(forall ((x Set<Set<E>>)) true)": false, "(forall ((x Map<E,Map<E,Bool>>)) true)": false, "(forall ((x Color)) true)": true, "(forall ((x Seq<Bool>)) true)": false, "(forall ((x Map<Color,Color>)) true)": true,
		"(and (forall ((x E)) true) (not (exists ((x Int)) true)))": false, "(forall ((x E)) (exists ((y Box)) true))": false, "(forall ((x E)) (! (ite (forall ((y Int)) true) ?x ?x)) true)": false,
	} {
		if is, e := Exact(sig, readTerm(t, sig, []api.Bound{{Name: "y", Sort: "F"}}, text)); is != want || e != api.OK {
			t.Errorf("Exact of %s: %v, %d", text, is, e)
		}
	}
	unknown := api.Terms{{Op: api.LTrue, Sort: "Bool"}, {Op: api.LForall, Sort: "Bool", Vars: []api.Bound{{Name: "x", Sort: "Int"}, {Name: "y", Sort: "G"}}, Kids: []int{0}}}
	for _, c := range []struct {
		term api.Terms
		want api.Errno
	}{{nil, api.ErrEmpty}, {api.Terms{{Op: api.TermOps}}, api.ErrKind}, {unknown, api.ErrSort}} {
		if is, e := Exact(sig, c.term); is || e != c.want {
			t.Errorf("Exact: %v, %d, want %d", is, e, c.want)
		}
	}
	if is, e := Exact(sig, api.Terms{{Op: api.LApp, Name: "nothing", Sort: "G"}}); !is || e != api.OK { // only the form is asked
		t.Errorf("Exact of an unknown function: %v, %d", is, e)
	}
}

// plain evaluates terms as the document says.
type plain struct {
	definition
	sig   api.Signature
	m     Model
	env   map[string]api.Value
	steps int
}

// values returns the values of a quantifier's variable.
func (p *plain) values(sort string) []api.Value {
	if p.keys[sort] == nil {
		p.keys[sort] = p.first(sort, 65, -1)
	}
	if list := p.keys[sort]; len(list) < 65 {
		return list
	}
	for _, d := range p.m.Domains {
		if d.Sort == sort {
			return d.Values
		}
	}
	zero, _ := Zero(p.sig, sort)
	return []api.Value{zero}
}

func (p *plain) value(t api.Terms, node int) (api.Value, api.Errno) {
	p.steps++
	n := t[node]
	if p.steps > 200000 {
		return api.Value{}, api.ErrLimit
	}
	if n.Op == api.LForall || n.Op == api.LExists {
		return p.quantifier(t, n, n.Vars)
	}
	var kids []api.Value
	for _, kid := range n.Kids {
		v, e := p.value(t, kid)
		if e != api.OK {
			return api.Value{}, e
		}
		kids = append(kids, v)
	}
	is := func(i int) bool { return kids[i].Num == "1" }
	switch n.Op {
	case api.LTrue, api.LFalse:
		return truth(n.Op == api.LTrue), api.OK
	case api.LNum:
		if n.Sort == "Real" {
			return fraction(n.Name), api.OK
		}
		return integer(n.Name), api.OK
	case api.LVar:
		return p.env[n.Name], api.OK
	case api.LApp:
		return Apply(p.sig, p.m, n.Name, kids)
	case api.LNot:
		return truth(!is(0)), api.OK
	case api.LAnd:
		return truth(!slices.ContainsFunc(kids, func(v api.Value) bool { return v.Num == "0" })), api.OK
	case api.LOr:
		return truth(slices.ContainsFunc(kids, func(v api.Value) bool { return v.Num == "1" })), api.OK
	case api.LImp:
		return truth(!is(0) || is(1)), api.OK
	case api.LIff, api.LEq:
		return truth(equal(kids[0], kids[1])), api.OK
	case api.LIte:
		if is(0) {
			return kids[1], api.OK
		}
		return kids[2], api.OK
	}
	return arithmeticOf(n.Op, kids[0], kids[1])
}

// arithmeticOf returns the result of an operation on numbers.
func arithmeticOf(op int, a, b api.Value) (api.Value, api.Errno) {
	calls := map[int]func(a, b string) (string, api.Errno){api.LAdd: num.Add, api.LSub: num.Sub, api.LMul: num.Mul}
	order, _ := num.Compare(a.Num, b.Num)
	if a.Kind == api.VReal {
		calls = map[int]func(a, b string) (string, api.Errno){api.LAdd: num.AddReal, api.LSub: num.SubReal, api.LMul: num.MulReal}
		order, _ = num.CompareReal(a.Num, b.Num)
	}
	switch op {
	case api.LLt:
		return truth(order < 0), api.OK
	case api.LLe:
		return truth(order <= 0), api.OK
	}
	s, e := calls[op](a.Num, b.Num)
	if e != api.OK {
		return api.Value{}, e
	}
	return api.Value{Kind: a.Kind, Num: s}, api.OK
}

// quantifier evaluates a quantifier for the variables that are left.
func (p *plain) quantifier(t api.Terms, n api.Term, left []api.Bound) (api.Value, api.Errno) {
	if len(left) == 0 {
		return p.value(t, n.Kids[len(n.Kids)-1])
	}
	before, bound := p.env[left[0].Name]
	defer func() {
		delete(p.env, left[0].Name)
		if bound {
			p.env[left[0].Name] = before
		}
	}()
	for _, v := range p.values(left[0].Sort) {
		p.env[left[0].Name] = v
		is, e := p.quantifier(t, n, left[1:])
		if e != api.OK || (is.Num == "1") == (n.Op == api.LExists) {
			return is, e
		}
	}
	return truth(n.Op == api.LForall), api.OK
}
