package model

import (
	"slices"
	"strconv"
	"testing"

	"entail/api"
	"entail/term"
)

// free are the free variables of random terms.
func free() []api.Bound {
	return []api.Bound{{Name: "x", Sort: "E"}, {Name: "y", Sort: "E"}, {Name: "i", Sort: "Int"}, {Name: "j", Sort: "Int"}, {Name: "v", Sort: "Bool"}, {Name: "w", Sort: "L"}, {Name: "u", Sort: "Seq<Int>"}, {Name: "z", Sort: "Map<E,Bool>"}}
}

// interpretedNames are the interpreted functions that random terms use.
func interpretedNames() []string {
	return []string{
		"div$Int", "mod$Int", "real$Int", "floor$Real", "select$Map<E,Bool>", "store$Map<E,Bool>", "const$Map<E,Bool>", "diff$Map<E,Bool>", "select$Map<Int,Bool>", "store$Map<Int,Bool>",
		"len$Seq<Int>", "at$Seq<Int>", "empty$Seq<Int>", "one$Seq<Int>", "cat$Seq<Int>", "put$Seq<Int>", "cut$Seq<Int>", "pre$Seq<Int>", "diff$Seq<Int>", "len$Seq<E>", "one$Seq<E>", "at$Seq<E>",
		"has$Set<E>", "empty$Set<E>", "one$Set<E>", "join$Set<E>", "meet$Set<E>", "less$Set<E>", "sub$Set<E>", "size$Set<E>", "diff$Set<E>", "one$Set<Int>", "has$Set<Int>",
		"is$nil", "is$cons", "is$red", "is$pair", "nil", "cons", "red", "green", "blue", "pair", "head", "tail", "fst", "snd",
	}
}

// functions returns the functions with a result sort.
func (m *maker) functions(sort string) []api.Fun {
	if m.funs[sort] != nil {
		return m.funs[sort]
	}
	var out []api.Fun
	for _, f := range m.sig.Funs {
		if f.Sort == sort {
			out = append(out, f)
		}
	}
	for _, name := range interpretedNames() {
		if f, e := term.Function(m.sig, name); e == api.OK && f.Sort == sort {
			out = append(out, f)
		}
	}
	m.funs[sort] = out
	return out
}

// made returns a term that was made without an error.
func made(t api.Terms, e api.Errno) api.Terms {
	if e != api.OK {
		panic("no term: " + strconv.Itoa(int(e)))
	}
	return t
}

// term returns a random term of a sort over some variables.
func (m *maker) term(sort string, depth int, vars []api.Bound) api.Terms {
	var own []api.Bound
	for _, v := range vars {
		if v.Sort == sort {
			own = append(own, v)
		}
	}
	sub := func(sort string) api.Terms { return m.term(sort, depth-1, vars) }
	if depth < -6 {
		panic("there are no constants")
	}
	switch choice := m.Intn(6); {
	case len(own) > 0 && (depth <= 0 || choice == 0):
		v := own[m.Intn(len(own))]
		return term.Var(v.Name, v.Sort)
	case sort == "Int" && (depth <= 0 || choice == 1):
		return made(term.Num("Int", strconv.Itoa(m.Intn(5)-2)))
	case sort == "Real" && (depth <= 0 || choice == 1):
		return made(term.Num("Real", []string{"0/1", "1/2", "-3/2", "2/1"}[m.Intn(4)]))
	case sort == "Bool" && depth <= 0:
		return term.Bool(m.Intn(2) == 0)
	case sort == "Bool" && choice < 5:
		return m.formula(depth, vars)
	case choice == 2 && depth > 0:
		return made(term.Make(api.LIte, sub("Bool"), sub(sort), sub(sort)))
	case (sort == "Int" || sort == "Real") && choice < 5:
		return made(term.Make([]int{api.LAdd, api.LSub, api.LMul}[m.Intn(3)], sub(sort), sub(sort)))
	}
	list := m.functions(sort)
	if len(list) == 0 {
		panic("there are no functions")
	}
	f := list[m.Intn(len(list))]
	if depth <= 0 {
		if i := slices.IndexFunc(list, func(f api.Fun) bool { return len(f.Args) == 0 }); i >= 0 {
			f = list[i]
		}
	}
	var args []api.Terms
	for _, arg := range f.Args {
		args = append(args, sub(arg))
	}
	return made(term.App(m.sig, f.Name, args...))
}

// formula returns a random connective, comparison, equality or quantifier.
func (m *maker) formula(depth int, vars []api.Bound) api.Terms {
	sub := func(sort string) api.Terms { return m.term(sort, depth-1, vars) }
	sorts := []string{"E", "Int", "Bool", "L", "Color", "Seq<Int>", "Set<E>", "Real", "Map<E,Bool>"}
	switch m.Intn(9) {
	case 0:
		return made(term.Make(api.LNot, sub("Bool")))
	case 1, 2:
		var kids []api.Terms
		for range m.Intn(4) {
			kids = append(kids, sub("Bool"))
		}
		return made(term.Make([]int{api.LAnd, api.LOr}[m.Intn(2)], kids...))
	case 3:
		return made(term.Make([]int{api.LImp, api.LIff}[m.Intn(2)], sub("Bool"), sub("Bool")))
	case 4:
		return made(term.Make([]int{api.LLt, api.LLe}[m.Intn(2)], sub("Int"), sub("Int")))
	case 5, 6:
		sort := sorts[m.Intn(len(sorts))]
		return made(term.Make(api.LEq, sub(sort), sub(sort)))
	}
	bound := slices.Clone(vars)
	var own []api.Bound
	for i := range 1 + m.Intn(2) {
		own = append(own, api.Bound{Name: []string{"x", "b", "i", "a"}[m.Intn(2)*2+i], Sort: sorts[m.Intn(len(sorts))]})
	}
	for _, v := range own {
		bound = append(slices.DeleteFunc(bound, func(other api.Bound) bool { return other.Name == v.Name }), v)
	}
	var triggers [][]api.Terms
	if m.Intn(3) == 0 {
		triggers = [][]api.Terms{{m.term("E", 1, bound)}}
	}
	return made(term.Quantify([]int{api.LForall, api.LExists}[m.Intn(2)], own, triggers, m.term("Bool", depth-1, bound)))
}

// model returns a random model.
func (m *maker) model() Model {
	out := Model{Domains: []Domain{{"Int", numbers(-1, 2)}, {"L", m.first("L", 3, -1)}}}
	for _, name := range m.sig.Sorts {
		out.Universes = append(out.Universes, Universe{name, m.size})
	}
	for _, f := range m.sig.Funs {
		table := Table{Name: f.Name, Default: m.value(f.Sort)}
		for range m.Intn(4) {
			var args []api.Value
			for _, sort := range f.Args {
				args = append(args, m.value(sort))
			}
			if _, found := table.find(args); !found {
				table.Entries = append(table.Entries, Entry{args, m.value(f.Sort)})
			}
		}
		out.Tables = append(out.Tables, table)
	}
	return out
}

// assigned returns random values of the free variables.
func (m *maker) assigned() []Assigned {
	var out []Assigned
	for _, v := range free() {
		out = append(out, Assigned{v.Name, m.value(v.Sort)})
	}
	return out
}

// envOf returns values by their names.
func envOf(l []Assigned) map[string]api.Value {
	out := map[string]api.Value{}
	for _, a := range l {
		out[a.Name] = a.Value
	}
	return out
}

// TestEvalRandomly is for P12.2 and P12.4: the values of random terms in random models, compared with the definition; they are values of the terms' sorts.
func TestEvalRandomly(t *testing.T) {
	kinds, fails := map[string]int{}, 0
	for size := 1; size <= 3; size++ {
		m := newMaker(int64(130+size), wideSig(), size)
		for range 8 {
			model := m.model()
			if e := Check(m.sig, model); e != api.OK {
				t.Fatalf("Check of a random model: %d", e)
			}
			for range 40 {
				sorts := []string{"Bool", "Bool", "Int", "E", "L", "Seq<Int>", "Set<E>", "Map<E,Bool>", "Real"}
				x := m.term(sorts[m.Intn(len(sorts))], 4, free())
				l := m.assigned()
				p := plain{definition: m.definition, sig: m.sig, m: model, env: envOf(l)}
				want, fault := p.value(x, len(x)-1)
				if p.steps > 2000 {
					continue // it takes too long this way
				}
				got, e := Eval(m.sig, model, l, x)
				s, _ := term.Print(x)
				if !equal(got, want) || e != fault {
					t.Fatalf("Eval of %s: %s, %d, want %s, %d", s, shown(got), e, shown(want), fault)
				}
				if e != api.OK {
					fails++
					continue
				}
				sort := x[len(x)-1].Sort
				if is, e := HasSort(m.sig, model, sort, got); !is || e != api.OK {
					t.Fatalf("Eval of %s: %s is not of the sort %s", s, shown(got), sort)
				}
				kinds[sort+shown(got)]++
			}
		}
	}
	if kinds["Booltrue"] < 50 || kinds["Boolfalse"] < 50 || len(kinds) < 50 || fails > 100 {
		t.Errorf("%d values, %d errors", len(kinds), fails)
	}
}

// TestNormalForms is for P12.4: negation normal forms, simplified terms, and terms with other bound names have equal values.
func TestNormalForms(t *testing.T) {
	m := newMaker(134, wideSig(), 2)
	compared := 0
	for range 60 {
		model, l := m.model(), m.assigned()
		for range 12 {
			x := m.term([]string{"Bool", "Bool", "Int", "E"}[m.Intn(4)], 4, free())
			want, e := Eval(m.sig, model, l, x)
			if e != api.OK {
				continue
			}
			others := []api.Terms{made(term.Simplify(x)), renamed(x)}
			if x[len(x)-1].Sort == "Bool" {
				if n, e := term.NNF(x); e == api.OK {
					others = append(others, n)
				}
			}
			if same, e := term.Alpha(x, others[1]); !same || e != api.OK {
				t.Fatalf("%v is not %v with other names", others[1], x)
			}
			for i, other := range others {
				got, e := Eval(m.sig, model, l, other)
				if e == api.ErrLimit {
					continue
				}
				if !equal(got, want) || e != api.OK {
					s, _ := term.Print(x)
					o, _ := term.Print(other)
					t.Fatalf("%d: %s is %s, but %s is %s, %d", i, s, shown(want), o, shown(got), e)
				}
				compared++
			}
		}
	}
	if compared < 1000 {
		t.Errorf("%d terms were compared", compared)
	}
}

// renamed returns a term with other names of the bound variables.
func renamed(t api.Terms) api.Terms {
	out := slices.Clone(t)
	inner := make([]map[string]string, len(t))
	inner[len(t)-1] = map[string]string{}
	for node := len(t) - 1; node >= 0; node-- {
		names := inner[node]
		if len(t[node].Vars) > 0 {
			names = map[string]string{}
			for from, to := range inner[node] {
				names[from] = to
			}
			out[node].Vars = nil
			for i, v := range t[node].Vars {
				names[v.Name] = "r" + strconv.Itoa(node) + "." + strconv.Itoa(i)
				out[node].Vars = append(out[node].Vars, api.Bound{Name: names[v.Name], Sort: v.Sort})
			}
		}
		if to, bound := names[t[node].Name]; bound && t[node].Op == api.LVar {
			out[node].Name = to
		}
		for _, kid := range t[node].Kids {
			inner[kid] = names
		}
	}
	return out
}

// TestSubstitution is for P12.4: substitution is evaluation with other values of variables.
func TestSubstitution(t *testing.T) {
	m := newMaker(135, wideSig(), 2)
	compared := 0
	for range 60 {
		model, l := m.model(), m.assigned()
		for range 10 {
			x := m.term([]string{"Bool", "Int", "E"}[m.Intn(3)], 4, free())
			var bindings []term.Binding
			other := slices.Clone(l)
			for i, v := range free() {
				if m.Intn(2) == 0 {
					continue
				}
				by := m.term(v.Sort, 2, free())
				value, e := Eval(m.sig, model, l, by)
				if e != api.OK {
					continue
				}
				bindings = append(bindings, term.Binding{Name: v.Name, Term: by})
				other[i].Value = value
			}
			replaced, e := term.Subst(x, bindings)
			if e != api.OK {
				continue
			}
			want, e1 := Eval(m.sig, model, other, x)
			got, e2 := Eval(m.sig, model, l, replaced)
			if e1 == api.ErrLimit || e2 == api.ErrLimit || e1 == api.ErrLarge {
				continue
			}
			if !equal(got, want) || e1 != e2 {
				s, _ := term.Print(x)
				t.Fatalf("%s with %v: %s, %d, want %s, %d", s, bindings, shown(got), e2, shown(want), e1)
			}
			compared++
		}
	}
	if compared < 300 {
		t.Errorf("%d terms were compared", compared)
	}
}

// TestEquations is for P12.4: equations that hold for all values of their variables.
func TestEquations(t *testing.T) {
	sig := wideSig()
	m := newMaker(136, sig, 2)
	model := firstModel(t, sig, 2)
	vars := []api.Bound{{Name: "a", Sort: "Map<E,Bool>"}, {Name: "b", Sort: "Map<E,Bool>"}, {Name: "k", Sort: "E"}, {Name: "l", Sort: "E"}, {Name: "v", Sort: "Bool"}, {Name: "s", Sort: "Seq<Int>"}, {Name: "t", Sort: "Seq<Int>"}, {Name: "r", Sort: "Seq<Int>"}, {Name: "i", Sort: "Int"}, {Name: "j", Sort: "Int"}, {Name: "n", Sort: "Int"}, {Name: "x", Sort: "Set<E>"}, {Name: "y", Sort: "Set<E>"}, {Name: "c", Sort: "L"}, {Name: "q", Sort: "Real"}, {Name: "f", Sort: "Map<Int,Bool>"}, {Name: "g", Sort: "Map<Int,Bool>"}}
	for _, text := range []string{
		"(= (select$Map<E,Bool> (store$Map<E,Bool> ?a ?k ?v) ?l) (ite (= ?k ?l) ?v (select$Map<E,Bool> ?a ?l)))",
		"(= (store$Map<E,Bool> ?a ?k (select$Map<E,Bool> ?a ?k)) ?a)",
		"(= (select$Map<E,Bool> (const$Map<E,Bool> ?v) ?k) ?v)",
		"(or (= ?a ?b) (not (= (select$Map<E,Bool> ?a (diff$Map<E,Bool> ?a ?b)) (select$Map<E,Bool> ?b (diff$Map<E,Bool> ?a ?b)))))",
		"(or (= ?f ?g) (not (= (select$Map<Int,Bool> ?f (diff$Map<Int,Bool> ?f ?g)) (select$Map<Int,Bool> ?g (diff$Map<Int,Bool> ?f ?g)))))",
		"(= (select$Map<Int,Bool> (store$Map<Int,Bool> ?f ?i ?v) ?j) (ite (= ?i ?j) ?v (select$Map<Int,Bool> ?f ?j)))",
		"(= (len$Seq<Int> (cat$Seq<Int> ?s ?t)) (+ (len$Seq<Int> ?s) (len$Seq<Int> ?t)))",
		"(= (cat$Seq<Int> ?s (cat$Seq<Int> ?t ?r)) (cat$Seq<Int> (cat$Seq<Int> ?s ?t) ?r))",
		"(= (cat$Seq<Int> (cut$Seq<Int> ?s 0 ?i) (cut$Seq<Int> ?s (ite (< ?i 0) 0 ?i) (len$Seq<Int> ?s))) ?s)",
		"(=> (and (<= 0 ?i) (< ?i (len$Seq<Int> ?s))) (= (at$Seq<Int> (put$Seq<Int> ?s ?i ?n) ?j) (ite (= ?i ?j) ?n (at$Seq<Int> ?s ?j))))",
		"(iff (pre$Seq<Int> ?s ?t) (= ?s (cut$Seq<Int> ?t 0 (len$Seq<Int> ?s))))",
		"(pre$Seq<Int> ?s (cat$Seq<Int> ?s ?t))",
		"(or (= ?s ?t) (or (not (= (len$Seq<Int> ?s) (len$Seq<Int> ?t))) (not (= (at$Seq<Int> ?s (diff$Seq<Int> ?s ?t)) (at$Seq<Int> ?t (diff$Seq<Int> ?s ?t))))))",
		"(= (at$Seq<Int> (one$Seq<Int> ?n) 0) ?n)",
		"(iff (has$Set<E> (join$Set<E> ?x ?y) ?k) (or (has$Set<E> ?x ?k) (has$Set<E> ?y ?k)))",
		"(iff (has$Set<E> (meet$Set<E> ?x ?y) ?k) (and (has$Set<E> ?x ?k) (has$Set<E> ?y ?k)))",
		"(iff (has$Set<E> (less$Set<E> ?x ?y) ?k) (and (has$Set<E> ?x ?k) (not (has$Set<E> ?y ?k))))",
		"(iff (sub$Set<E> ?x ?y) (= (join$Set<E> ?x ?y) ?y))",
		"(= (+ (size$Set<E> ?x) (size$Set<E> ?y)) (+ (size$Set<E> (join$Set<E> ?x ?y)) (size$Set<E> (meet$Set<E> ?x ?y))))",
		"(or (= ?x ?y) (not (iff (has$Set<E> ?x (diff$Set<E> ?x ?y)) (has$Set<E> ?y (diff$Set<E> ?x ?y)))))",
		"(= (ite (= ?j 0) 0 (+ (* ?j (div$Int ?i ?j)) (mod$Int ?i ?j))) (ite (= ?j 0) 0 ?i))",
		"(and (<= 0 (mod$Int ?i ?j)) (<= (mod$Int ?i ?j) (* ?j ?j)))",
		"(and (<= (real$Int (floor$Real ?q)) ?q) (< ?q (+ (real$Int (floor$Real ?q)) 1/1)))",
		"(= (floor$Real (real$Int ?i)) ?i)",
		"(iff (is$cons ?c) (= ?c (cons (head ?c) (tail ?c))))",
		"(iff (is$nil ?c) (not (is$cons ?c)))",
		"(= (head (cons ?k ?c)) ?k)",
		"(= (tail (cons ?k ?c)) ?c)",
	} {
		x := readTerm(t, sig, vars, text)
		for range 25 {
			var l []Assigned
			for _, v := range vars {
				l = append(l, Assigned{v.Name, m.value(v.Sort)})
			}
			if v := evaluated(t, sig, model, l, x); !equal(v, truth(true)) {
				t.Errorf("%s is %s for %v", text, shown(v), l)
				break
			}
		}
	}
}

// TestEvalKeeps is for P12.2: results share no memory with the values of variables.
func TestEvalKeeps(t *testing.T) {
	v := seq(numbers(1, 2)...)
	x := term.Var("s", "Seq<Int>")
	got := evaluated(t, api.Signature{}, Model{}, []Assigned{{"s", v}}, x)
	got.Items[0].Num = "7"
	if v.Items[0].Num != "1" {
		t.Error("Eval shares memory with the value of a variable")
	}
}
