package model

import (
	"math/rand"
	"slices"
	"strings"
	"testing"

	"entail/api"
	"entail/num"
	"entail/term"
)

// candidates goes through the candidate models as the document tells of them.
type candidates struct {
	definition
	formulas []api.Terms
}

// elements returns the elements of a sort.
func (c candidates) elements(sort string) []api.Value {
	if list := c.first(sort, 65, -1); len(list) < 65 {
		return list
	}
	if sort != "Int" && sort != "Real" {
		return c.first(sort, 3, -1)
	}
	add, of, one := num.Add, integer, "1"
	if sort == "Real" {
		add, of, one = num.AddReal, fraction, "1/1"
	}
	minus, _ := arithmeticOf(api.LSub, of(strings.Replace(one, "1", "0", 1)), of(one))
	list := []api.Value{of(strings.Replace(one, "1", "0", 1)), of(one)}
	for _, t := range c.formulas {
		for _, n := range t {
			if n.Op != api.LNum || n.Sort != sort {
				continue
			}
			for _, by := range []string{strings.Replace(one, "1", "0", 1), one, minus.Num} {
				s, _ := add(n.Name, by)
				if v := of(s); !slices.ContainsFunc(list, func(other api.Value) bool { return equal(other, v) }) {
					list = append(list, v)
				}
			}
		}
	}
	return list
}

// all yields the candidate models, as many as there are up to a number.
func (c candidates) all(most int) ([]Model, bool) {
	first := Model{}
	for _, name := range c.sig.Sorts {
		first.Universes = append(first.Universes, Universe{name, c.size})
	}
	sorts := []string{"Int", "Real"}
	for _, t := range c.formulas {
		for _, n := range t {
			for _, v := range n.Vars {
				if !slices.Contains(sorts, v.Sort) && len(c.first(v.Sort, 65, -1)) == 65 {
					sorts = append(sorts, v.Sort)
				}
			}
		}
	}
	for _, sort := range sorts {
		first.Domains = append(first.Domains, Domain{sort, c.elements(sort)})
	}
	list := []Model{first}
	for _, f := range c.sig.Funs {
		lists := [][]api.Value{nil}
		for _, sort := range f.Args {
			var longer [][]api.Value
			for _, args := range lists {
				for _, v := range c.elements(sort) {
					longer = append(longer, append(slices.Clone(args), v))
				}
			}
			lists = longer
		}
		zero, _ := Zero(c.sig, f.Sort)
		tables := []Table{{Name: f.Name, Default: zero}}
		for _, args := range lists {
			var longer []Table
			for _, table := range tables {
				for _, v := range c.elements(f.Sort) {
					longer = append(longer, Table{f.Name, append(slices.Clone(table.Entries), Entry{args, v}), zero})
				}
			}
			if tables = longer; len(tables) > most {
				return nil, false
			}
		}
		var longer []Model
		for _, m := range list {
			for _, table := range tables {
				longer = append(longer, Model{m.Universes, m.Domains, append(slices.Clone(m.Tables), table)})
			}
		}
		if list = longer; len(list) > most {
			return nil, false
		}
	}
	return list, true
}

// holdIn reports whether formulas are true in a model.
func holdIn(sig api.Signature, m Model, l []api.Terms) bool {
	for _, x := range l {
		if is, e := Holds(sig, m, x); !is || e != api.OK {
			return false
		}
	}
	return true
}

// readAll returns the formulas of texts.
func readAll(t *testing.T, sig api.Signature, texts ...string) []api.Terms {
	t.Helper()
	var out []api.Terms
	for _, s := range texts {
		out = append(out, readTerm(t, sig, nil, s))
	}
	return out
}

// TestFind is for P12.3: formulas that are true in some model, or in none.
func TestFind(t *testing.T) {
	sig := sigOf("E F", []string{"L = nil | cons head:E tail:L", "Color = red | green | blue"}, []string{
		"c -> E", "d -> E", "f E -> E", "p E -> Bool", "n -> Int", "g Int -> Int", "r -> Real", "l -> L", "k -> Color", "s -> Seq<E>", "m -> Map<E,Color>", "u -> Map<Int,Int>", "v -> Set<E>", "h F E -> F", "q Color Color -> Bool",
	})
	for _, c := range []struct {
		formulas []string
		least    int // the least size with a model, or 0
		most     int // the greatest one, or 0 if it is 3
	}{
		{nil, 1, 0},
		{[]string{"true"}, 1, 0},
		{[]string{"false"}, 0, 0},
		{[]string{"true", "true", "false"}, 0, 0},
		{[]string{"(p c)", "(not (p (f c)))"}, 2, 0},
		{[]string{"(p c)", "(not (p c))"}, 0, 0},
		{[]string{"(not (= c d))"}, 2, 0},
		{[]string{"(not (= c d))", "(not (= (f c) c))", "(not (= (f c) d))"}, 3, 0},
		{[]string{"(forall ((x E)) (not (= (f ?x) ?x)))"}, 2, 0},
		{[]string{"(forall ((x E)) (not (= (f ?x) ?x)))", "(forall ((x E)) (not (= (f (f ?x)) ?x)))"}, 3, 0},
		{[]string{"(forall ((x E)) (not (= (f ?x) ?x)))", "(forall ((x E)) (= (f (f ?x)) ?x))", "(not (= (f c) d))"}, 2, 2},
		{[]string{"(exists ((x E)) (and (p ?x) (not (p (f ?x)))))", "(forall ((x E)) (= (f (f (f ?x))) ?x))"}, 3, 0},
		{[]string{"(= n 7)"}, 1, 0},
		{[]string{"(< 7 n)"}, 1, 0},
		{[]string{"(< n 7)"}, 1, 0},
		{[]string{"(< n -5)"}, 1, 0},
		{[]string{"(< 8 n)", "(= 7 7)"}, 1, 0},
		{[]string{"(< (+ 8 1) n)"}, 0, 0}, // no element is greater than 9
		{[]string{"(< n n)"}, 0, 0},
		{[]string{"(= (g n) 3)", "(not (= (g (+ n 1)) 3))"}, 1, 0},
		{[]string{"(= (g 100) 5)", "(= (g 101) 6)"}, 1, 0},
		{[]string{"(= (g (* 100 100)) 5)"}, 0, 0}, // no element, so it is the zero
		{[]string{"(= (g (* 100 100)) 0)"}, 1, 0},
		{[]string{"(= r 1/2)"}, 1, 0},
		{[]string{"(< r -1/2)"}, 1, 0},
		{[]string{"(< 1/1 r)"}, 1, 0},
		{[]string{"(< 2/1 (+ r r))"}, 1, 0},
		{[]string{"(not (= l nil))"}, 1, 0},
		{[]string{"(is$cons (tail l))"}, 1, 1},
		{[]string{"(= k blue)"}, 1, 0},
		{[]string{"(q red green)", "(not (q green red))", "(q k k)"}, 1, 0},
		{[]string{"(= (len$Seq<E> s) 1)"}, 1, 0},
		{[]string{"(= (len$Seq<E> s) 5)"}, 0, 0},
		{[]string{"(= (select$Map<E,Color> m c) green)", "(= (select$Map<E,Color> m d) blue)"}, 2, 0},
		{[]string{"(= (select$Map<Int,Int> u 0) 1)"}, 1, 0},
		{[]string{"(= (size$Set<E> v) 2)"}, 2, 0},
		{[]string{"(exists ((x Int)) (= ?x 77))"}, 1, 0},
		{[]string{"(forall ((x Int)) (<= 0 ?x))"}, 0, 0},
		{[]string{"(exists ((x Int)) (= ?x 3))", "(exists ((y Int)) (= ?y 5))", "(forall ((x Int)) (< ?x 9))"}, 0, 0},
		{[]string{"(exists ((x Int)) (= ?x 3))", "(exists ((y Int)) (= ?y 5))", "(forall ((x Int)) (< ?x (+ 5 2)))"}, 1, 0},
		{[]string{"(exists ((x Int)) (= (g ?x) 4))"}, 1, 0},
		{[]string{"(exists ((x L)) (is$cons ?x))"}, 1, 0},
		{[]string{"(forall ((x L)) (is$nil ?x))"}, 0, 0},
		{[]string{"(exists ((a F) (b F)) (not (= ?a ?b)))", "(forall ((a F) (x E)) (not (= (h ?a ?x) ?a)))"}, 2, 0},
		{[]string{"(or (p c) (= (* n 5) 3))"}, 1, 0},
		{[]string{"(and (or (p c) (p d)) (not (and (p c) (p d))))"}, 2, 0},
		{[]string{"(ite (p c) (p d) (not (p d)))", "(=> (p d) (not (p c)))"}, 1, 0},
		{[]string{"(ite (p c) true false)"}, 1, 0},
		{[]string{"(ite (p c) false true)"}, 1, 0},
		{[]string{"(= 3 (ite (p c) 3 4))"}, 1, 0},
		{[]string{"(= 3 (ite (p c) 4 3))"}, 1, 0},
		{[]string{"(=> (p c) false)", "(=> true (p d))"}, 2, 0},
		{[]string{"(=> (p c) (p d))", "(p c)", "(not (p d))"}, 0, 0},
		{[]string{"(not (=> (p c) (p (f c))))"}, 2, 0},
		{[]string{"(iff (p c) (not (p d)))", "(iff (p (f c)) (not (p (f d))))", "(= (f c) d)"}, 2, 0},
	} {
		l := readAll(t, sig, c.formulas...)
		for size := 1; size <= 3; size++ {
			m, found, e := Find(sig, l, size, 100000)
			if found != (c.least > 0 && size >= c.least && (c.most == 0 || size <= c.most)) || e != api.OK {
				t.Errorf("Find of %q with the size %d: %v, %d", c.formulas, size, found, e)
				continue
			}
			if found && (Check(sig, m) != api.OK || !holdIn(sig, m, l) || m.Universes[0].Size != size) || !found && !sameModels(m, Model{}) {
				t.Errorf("Find of %q with the size %d: %v", c.formulas, size, m)
			}
		}
	}
}

// TestFindErrors is for P12.3: formulas that are none, and numbers outside of their ranges.
func TestFindErrors(t *testing.T) {
	sig := sigG()
	yes, element := readTerm(t, sig, nil, "(p c)"), readTerm(t, sig, nil, "c")
	open := api.Terms{{Op: api.LVar, Name: "x", Sort: "Bool"}}
	unknown := api.Terms{{Op: api.LApp, Name: "g", Sort: "Bool"}}
	for i, c := range []struct {
		l           []api.Terms
		size, limit int
		want        api.Errno
	}{
		{slices.Repeat([]api.Terms{yes}, 50), 1, 100, api.OK},
		{slices.Repeat([]api.Terms{nil}, 51), 0, 0, api.ErrMany},
		{[]api.Terms{yes, nil, element}, 0, 0, api.ErrEmpty},
		{[]api.Terms{yes, {{Op: -1}}}, 0, 0, api.ErrKind},
		{[]api.Terms{yes, open, element}, 0, 0, api.ErrUnknown},
		{[]api.Terms{yes, unknown, element}, 0, 0, api.ErrUnknown},
		{[]api.Terms{yes, element, open}, 0, 0, api.ErrSort},
		{[]api.Terms{yes}, 0, 100, api.ErrRange},
		{[]api.Terms{yes}, -1, 100, api.ErrRange},
		{[]api.Terms{yes}, 4, 100, api.ErrRange},
		{[]api.Terms{yes}, 1, 0, api.ErrRange},
		{[]api.Terms{yes}, 1, -1, api.ErrRange},
		{[]api.Terms{yes}, 1, 100001, api.ErrRange},
		{[]api.Terms{yes}, 3, 100000, api.OK},
		{[]api.Terms{yes}, 1, 1000, api.OK},
	} {
		m, found, e := Find(sig, c.l, c.size, c.limit)
		if e != c.want || found != (e == api.OK) || !found && !sameModels(m, Model{}) {
			t.Errorf("%d: Find: %v, %v, %d, want %d", i, m, found, e, c.want)
		}
	}
}

// TestFindRandomly is for P12.3: a model is found if there is a candidate model, and it is right; compared with all candidate models.
func TestFindRandomly(t *testing.T) {
	r := rand.New(rand.NewSource(137))
	signatures := []api.Signature{
		sigOf("E", nil, []string{"c -> E", "d -> E", "f E -> E", "p E -> Bool"}),
		sigOf("E", nil, []string{"c -> E", "q E E -> Bool"}),
		sigOf("", nil, []string{"n -> Int", "k -> Int", "b -> Bool"}),
		sigOf("", nil, []string{"g Int -> Bool", "n -> Int"}),
		sigOf("E", []string{"L = nil | cons head:E tail:L"}, []string{"w -> L", "c -> E", "p E -> Bool"}),
		sigOf("E", []string{"Color = red | green | blue"}, []string{"c -> E", "m -> Map<E,Bool>", "h Color -> Bool", "t -> Set<E>"}),
		sigOf("", nil, []string{"r -> Real", "a -> Real"}),
	}
	counts := map[string]int{}
	for round := range 260 {
		sig := signatures[round%len(signatures)]
		size := 1 + r.Intn(2)
		m := newMaker(int64(r.Intn(1000000)), sig, size)
		m.funs["F"] = nil
		var l []api.Terms
		for range 1 + r.Intn(3) {
			if x, ok := m.closedFormula(3); ok {
				l = append(l, x)
			}
		}
		c := candidates{m.definition, l}
		all, few := c.all(1500)
		if !few {
			counts["many"]++
			continue
		}
		exists := slices.ContainsFunc(all, func(m Model) bool { return holdIn(sig, m, l) })
		limit := max(len(all), 1)
		found, is, e := Find(sig, l, size, limit)
		if is != exists || e != api.OK {
			t.Fatalf("Find of %s: %v, %d, but %v", texted(l), is, e, exists)
		}
		if is && (Check(sig, found) != api.OK || !holdIn(sig, found, l)) {
			t.Fatalf("Find of %s: %v", texted(l), found)
		}
		counts[map[bool]string{true: "found", false: "not"}[is]]++
		if limit > 1 { // below the number of models it may be an error
			if _, is, e := Find(sig, l, size, limit/2); !(e == api.OK && is == exists || e == api.ErrLimit && !is) {
				t.Fatalf("Find of %s with a lower limit: %v, %d", texted(l), is, e)
			}
		}
	}
	if counts["found"] < 30 || counts["not"] < 30 {
		t.Errorf("%v", counts)
	}
}

// texted returns the texts of terms.
func texted(l []api.Terms) string {
	var out []string
	for _, x := range l {
		s, _ := term.Print(x)
		out = append(out, s)
	}
	return strings.Join(out, ", ")
}

// closedFormula returns a random formula without free variables over a signature that need not have all sorts.
func (m *maker) closedFormula(depth int) (x api.Terms, ok bool) {
	defer func() {
		_, e := term.Check(m.sig, nil, x)
		ok = recover() == nil && e == api.OK && len(x) < 40
	}()
	return m.term("Bool", depth, nil), true
}

// TestFindLimits is for P12.3: the errors that are permitted, and results where a search through all candidate models would take too long.
func TestFindLimits(t *testing.T) {
	great := strings.Repeat("9", 120)
	fifty := make([]string, 0, 16) // with 0, 1 and what is beside them these are 50 elements
	for i := range 16 {
		fifty = append(fifty, "(not (= n "+strings.Repeat("1", i+2)+"))")
	}
	many := make([]string, 0, 17)
	for i := range 17 {
		many = append(many, "(not (= n "+strings.Repeat("1", i+2)+"))")
	}
	wide := tower(4, 20) // the zero of D0 is no value
	wide.Funs = []api.Fun{{Name: "w", Sort: "D0"}, {Name: "b", Sort: "Bool"}}
	four := sigOf("E", nil, []string{"f E E E E -> Bool", "g E E E E E E -> Bool", "c -> E", "n -> Int"})
	ints := sigOf("", nil, []string{"n -> Int", "g Int -> Int"})
	for i, c := range []struct {
		sig         api.Signature
		formulas    []string
		size, limit int
		found       bool
		want        []api.Errno
	}{
		{ints, []string{"(= n " + great + ")"}, 1, 100, false, []api.Errno{api.OK, api.ErrLarge}},
		{ints, []string{"(= n 1)"}, 1, 100, true, []api.Errno{api.OK}},
		{ints, []string{"(exists ((x Int)) (= ?x " + great + "))"}, 1, 100, false, []api.Errno{api.ErrLarge}},
		{ints, []string{"(forall ((x Int)) (= empty$Seq<Int> (cut$Seq<Int> empty$Seq<Int> ?x " + great + ")))"}, 1, 100, false, []api.Errno{api.ErrLarge}},
		{ints, append(slices.Clone(fifty), "(exists ((x Int)) (= ?x n))"), 1, 100000, true, []api.Errno{api.OK}},
		{ints, append(slices.Clone(many), "(exists ((x Int)) (= ?x n))"), 1, 100000, false, []api.Errno{api.ErrMany}},
		{ints, append(slices.Clone(many), "(= n 7)"), 1, 100000, false, []api.Errno{api.OK}},
		{ints, many, 1, 100000, true, []api.Errno{api.OK}},
		{wide, []string{"b"}, 1, 100, false, []api.Errno{api.OK, api.ErrLarge}},
		{four, []string{"(f c c c c)", "(forall ((x E)) (not (f ?x ?x ?x c)))"}, 3, 1000, false, []api.Errno{api.OK, api.ErrLimit}},
		{four, []string{"(forall ((x E) (y E) (z E)) (iff (f ?x ?y ?z ?z) (not (= ?x ?y))))"}, 3, 100, true, []api.Errno{api.OK}},
		{four, []string{"(forall ((a E) (b E) (c E) (d E) (e E) (h E)) (not (g ?a ?b ?c ?d ?e ?h)))"}, 3, 100, false, []api.Errno{api.ErrMany}},
		{four, []string{"(g c c c c c c)"}, 3, 1, true, []api.Errno{api.OK}},
		{four, []string{"(= (* n n) 81)", "(= n 9)"}, 1, 100, true, []api.Errno{api.OK}},
		{four, []string{"(forall ((a E) (b E) (c E) (d E) (e E) (h E) (i E) (j E) (k E) (l E) (m E)) (= ?a ?a))"}, 3, 100, false, []api.Errno{api.OK, api.ErrLimit}},
		{four, []string{"(or (= n 0) (= 0 (* " + great + " n)))"}, 1, 100, false, []api.Errno{api.OK, api.ErrLarge}},
		{four, []string{"(or (= n 1) (= 0 (+ " + great[1:] + "0 (* n 10))))"}, 1, 100, false, []api.Errno{api.OK}},
	} {
		l := readAll(t, c.sig, c.formulas...)
		m, found, e := Find(c.sig, l, c.size, c.limit)
		if !slices.Contains(c.want, e) || found != c.found && e == api.OK && c.found || found && (Check(c.sig, m) != api.OK || !holdIn(c.sig, m, l)) || e != api.OK && (found || !sameModels(m, Model{})) {
			t.Errorf("%d: Find of %.80q: %v, %d, want %v", i, c.formulas, found, e, c.want)
		}
	}
}

// TestFindOpen is for P12.3: where a formula has an error with zeros for the results that are left open, others are tried.
func TestFindOpen(t *testing.T) {
	great := strings.Repeat("9", 119)
	sig := sigOf("", nil, []string{"b -> Bool", "n -> Int", "k -> Int"})
	for text, want := range map[string]bool{
		"(or true (= 0 (ite (= n 1) 5 (* " + great + " 100))))":                                              false, // all children are evaluated
		"(or true (= 0 (* " + great + " (ite (= n 0) 100 1))))":                                              true,
		"(or b (= 0 (* " + great + " (ite (= n 0) 100 1))))":                                                 true,
		"(or (not b) (= 0 (+ (* " + great + " (ite (= n 1) 1 100)) (* " + great + " (ite (= k 1) 1 100)))))": true,
		"(exists ((x Bool)) (or (and (not ?x) b) (and ?x (= 0 (* " + great + " (ite ?x 100 1))))))":          true, // if b is true, the error is not reached
		"(and b (or b (= 0 (* " + great + " (ite (= n 2) 1 100)))))":                                         true,
		"(and b (= k 3) (or b (= 0 (* " + great + " (ite (= n 7) 1 100)))))":                                 true,
	} {
		l := readAll(t, sig, text)
		m, found, e := Find(sig, l, 1, 100000)
		if found != want || e != api.OK || found && !holdIn(sig, m, l) {
			t.Errorf("Find of %s: %v, %d", text, found, e)
		}
	}
}

// TestFindKeeps is for P12.3: the result depends only on the arguments, and its parts share no memory.
func TestFindKeeps(t *testing.T) {
	sig := sigOf("", []string{"P = p x:Int"}, []string{"a -> P", "b -> P", "f P -> P"})
	l := readAll(t, sig, "(= (f a) b)", "(not (= a b))", "(exists ((y P)) (= ?y a))")
	m, found, e := Find(sig, l, 1, 1000)
	again, _, _ := Find(sig, l, 1, 1000)
	if !found || e != api.OK || !sameModels(m, again) {
		t.Fatalf("Find: %v, %v, %d", m, found, e)
	}
	text, _ := Print(sig, m)
	for _, d := range m.Domains {
		for _, v := range d.Values {
			v.Items[0].Num = "9"
		}
	}
	for _, table := range m.Tables {
		for _, entry := range table.Entries {
			entry.Result.Items[0].Num = "8"
		}
	}
	for i, table := range m.Tables {
		for j, entry := range table.Entries {
			for _, arg := range entry.Args {
				if arg.Items[0].Num != again.Tables[i].Entries[j].Args[0].Items[0].Num {
					t.Error("Find shares memory between entries")
				}
			}
		}
	}
	if other, _ := Print(sig, again); other != text {
		t.Errorf("two results of Find share memory: %s, %s", text, other)
	}
}
