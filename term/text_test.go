package term

import (
	"strconv"
	"strings"
	"testing"

	"entail/api"
)

// TestPrint is for P9.5: the text of each kind of node, read to the same term.
func TestPrint(t *testing.T) {
	for _, s := range []string{
		"true", "false", "-5", "0", "3/4", "-3/1", "?x", "c", "n", "nil", "(f c)", "(cons (f ?x) nil)", "(is$cons (tail (cons c nil)))", "(and)", "(or)", "(and ?b)", "(or (p c) (not (p ?x)))", "(=> (p c) (iff (p ?x) true))", "(ite (= c ?x) 1 n)", "(< (+ n 1) (* n n))", "(<= (- 1/2 ?r) ?r)",
		"(forall ((z E) (k Int)) (! (f ?z)) (= (f ?z) c))", "(forall ((z E)) (! (f ?z) ?z) (! c) true)", "(exists ((z Seq<Int>)) (<= 0 (len$Seq<Int> ?z)))", "(select$Map<E,Int> (const$Map<E,Int> 0) c)", "empty$Set<Map<E,L>>", "(exists ((x Int)) (exists ((x Bool)) ?x))",
		"(forall ((? E)) (p ??))", "(forall ((1 E)) (p ?1))", "(forall ((true Bool)) ?true)", "(div$Int 1 (floor$Real (real$Int 2)))",
	} {
		x := of(t, s)
		if got, e := Print(x); got != s || e != api.OK {
			t.Errorf("%s is printed as %q, %d", s, got, e)
		}
	}
	for s, want := range map[string]string{" ( f\nc ) ": "(f c)", "(and(p c)?b)": "(and (p c) ?b)", "\n\n-1\n": "-1", "(forall((x E)(y E))(!(f ?x))(q ?x ?y))": "(forall ((x E) (y E)) (! (f ?x)) (q ?x ?y))", "(  and  )": "(and)"} {
		if got := shown(t, of(t, s)); got != want {
			t.Errorf("%q is printed as %s, want %s", s, got, want)
		}
	}
}

// TestLongTexts is for P9.5: texts of MaxText bytes, and longer ones.
func TestLongTexts(t *testing.T) {
	app := func(length int) api.Terms { return api.Terms{leaf(api.LApp, "E", strings.Repeat("a", length))} }
	if s, e := Print(app(api.MaxText)); len(s) != api.MaxText || e != api.OK {
		t.Errorf("a text of MaxText bytes: %d bytes, %d", len(s), e)
	}
	if s, e := Print(app(api.MaxText + 1)); s != "" || e != api.ErrLong {
		t.Errorf("a text of more than MaxText bytes: %d bytes, %d", len(s), e)
	}
	x := Var(strings.Repeat("v", 200), "Bool")
	var kids []api.Terms
	for range 1999 {
		kids = append(kids, x)
	}
	wide, e := Make(api.LAnd, kids...)
	if e != api.OK {
		t.Fatalf("Make: %d", e)
	}
	if s, e := Print(wide); s != "" || e != api.ErrLong {
		t.Errorf("many long names: %d bytes, %d", len(s), e)
	}
	spaces := strings.Repeat(" ", api.MaxText-1)
	if _, at, e := Parse(example(), nil, spaces+"c"); at != 0 || e != api.OK {
		t.Errorf("Parse of MaxText bytes: %d at %d", e, at)
	}
	if _, at, e := Parse(example(), nil, spaces+"c "); at != 0 || e != api.ErrLong {
		t.Errorf("Parse of more than MaxText bytes: %d at %d", e, at)
	}
	if _, at, e := Parse(example(), nil, spaces+" "); at != api.MaxText || e != api.ErrSyntax {
		t.Errorf("Parse of MaxText spaces: %d at %d", e, at)
	}
}

// TestParseErrors is for P9.5: the first error of a text that is read from left to right, with its offset.
func TestParseErrors(t *testing.T) {
	for _, c := range []struct {
		s  string
		at int
		e  api.Errno
	}{
		{"", 0, api.ErrSyntax}, {"  ", 2, api.ErrSyntax}, {")", 0, api.ErrSyntax}, {"(", 1, api.ErrSyntax}, {"()", 1, api.ErrSyntax}, {"(f", 2, api.ErrSyntax}, {"(f c", 4, api.ErrSyntax}, {"(f c) c", 6, api.ErrSyntax}, {"c)", 1, api.ErrSyntax}, {"c c", 2, api.ErrSyntax},
		{"((f c))", 1, api.ErrSyntax}, {"(f)", 2, api.ErrSyntax}, {"(c)", 2, api.ErrSyntax}, {"( f )", 4, api.ErrSyntax},
		// words
		{"and", 0, api.ErrSyntax}, {"=", 0, api.ErrSyntax}, {"forall", 0, api.ErrSyntax}, {"(f not)", 3, api.ErrSyntax}, {"!", 0, api.ErrSyntax}, {"-", 0, api.ErrSyntax}, {"=>", 0, api.ErrSyntax}, {"<", 0, api.ErrSyntax}, {"a{", 0, api.ErrSyntax}, {"!a", 0, api.ErrSyntax}, {"-a", 0, api.ErrSyntax},
		{"(true)", 1, api.ErrSyntax}, {"(1 2)", 1, api.ErrSyntax}, {"(?x)", 1, api.ErrSyntax}, {"(! c)", 1, api.ErrSyntax}, {"(and (! c))", 6, api.ErrSyntax}, {"?", 0, api.ErrSyntax}, {"?{", 0, api.ErrSyntax}, {"(p ?)", 3, api.ErrSyntax},
		// numerals
		{"2/4", 0, api.ErrSyntax}, {"01", 0, api.ErrSyntax}, {"-0", 0, api.ErrSyntax}, {"1a", 0, api.ErrSyntax}, {"-1a", 0, api.ErrSyntax}, {"1/0", 0, api.ErrSyntax}, {"(+ 1 2.5)", 5, api.ErrSyntax}, {strings.Repeat("9", 121), 0, api.ErrSyntax},
		// numbers of children
		{"(not)", 4, api.ErrSyntax}, {"(not ?b ?b)", 8, api.ErrSyntax}, {"(= c)", 4, api.ErrSyntax}, {"(= c c c)", 7, api.ErrSyntax}, {"(ite ?b c)", 9, api.ErrSyntax}, {"(ite ?b c c c)", 12, api.ErrSyntax}, {"(+ 1)", 4, api.ErrSyntax}, {"(+ 1 2 3)", 7, api.ErrSyntax}, {"(=> ?b", 6, api.ErrSyntax}, {"(not c c)", 7, api.ErrSyntax}, {"(< 1 2", 6, api.ErrSyntax}, {"(iff ?b ?b (", 11, api.ErrSyntax},
		// names that are unknown
		{"d", 0, api.ErrUnknown}, {"(d c)", 1, api.ErrUnknown}, {"(f d)", 3, api.ErrUnknown}, {"?nope", 0, api.ErrUnknown}, {"(f ?nope)", 3, api.ErrUnknown}, {"E", 0, api.ErrUnknown}, {"x", 0, api.ErrUnknown}, {"is$f", 0, api.ErrUnknown}, {"empty$Seq<F>", 0, api.ErrUnknown}, {"(d ?nope)", 3, api.ErrUnknown}, {"(d", 2, api.ErrSyntax}, {"(d)", 2, api.ErrSyntax}, {"(d c", 4, api.ErrSyntax}, {"(d (f 1))", 3, api.ErrSort}, {"(d (d c))", 4, api.ErrUnknown}, {"(and ?b (d c) ))", 9, api.ErrUnknown}, {"(forall ((u E)) (p ?v))", 19, api.ErrUnknown}, {"(and (forall ((u E)) (p ?u)) (p ?u))", 32, api.ErrUnknown},
		// numbers of arguments
		{"f", 0, api.ErrArgs}, {"(p f)", 3, api.ErrArgs}, {"(p c c)", 0, api.ErrArgs}, {"(and (q c))", 5, api.ErrArgs}, {"(c c)", 0, api.ErrArgs}, {"(q 1)", 0, api.ErrArgs}, {"is$nil", 0, api.ErrArgs}, {"(p c c c", 8, api.ErrSyntax}, {"(p c c) )", 0, api.ErrArgs},
		// sorts
		{"(f nil)", 0, api.ErrSort}, {"(not c)", 0, api.ErrSort}, {"(and ?b (not c) d)", 8, api.ErrSort}, {"(= c 1)", 0, api.ErrSort}, {"(+ 1 1/2)", 0, api.ErrSort}, {"(+ c c)", 0, api.ErrSort}, {"(< ?b ?b)", 0, api.ErrSort}, {"(ite c c c)", 0, api.ErrSort}, {"(ite ?b c 1)", 0, api.ErrSort}, {"(iff c c)", 0, api.ErrSort}, {"(and (f 1) d)", 5, api.ErrSort}, {"(or 1)", 0, api.ErrSort}, {"(p (f nil))", 3, api.ErrSort},
		// quantifiers
		{"(forall", 7, api.ErrSyntax}, {"(forall x true)", 8, api.ErrSyntax}, {"(forall () true)", 9, api.ErrSyntax}, {"(forall (x E) true)", 9, api.ErrSyntax}, {"(forall ((x)) true)", 11, api.ErrSyntax}, {"(forall ((x E F)) true)", 14, api.ErrSyntax}, {"(forall ((x E))", 15, api.ErrSyntax}, {"(forall ((x E)))", 15, api.ErrSyntax}, {"(forall ((x E)) true true)", 21, api.ErrSyntax}, {"(forall ((x E)) (! ) true)", 19, api.ErrSyntax}, {"(forall ((x E)) (! c))", 21, api.ErrSyntax},
		{"(forall ((x E)) true (! c))", 21, api.ErrSyntax}, {"(forall (((x E)) true)", 10, api.ErrSyntax}, {"(forall ((a{ E)) true)", 10, api.ErrSyntax}, {"(forall ((x ()) true)", 12, api.ErrSyntax}, {"(forall ((" + strings.Repeat("v", 201) + " E)) true)", 10, api.ErrSyntax},
		{"(forall ((x F)) true)", 12, api.ErrSort}, {"(forall ((x E) (y F)) d)", 18, api.ErrSort}, {"(forall ((x F", 12, api.ErrSort}, {"(forall ((x E)) c)", 0, api.ErrSort}, {"(and (exists ((x E)) ?x))", 5, api.ErrSort}, {"(forall ((x E)) (! (f 1)) true)", 19, api.ErrSort}, {"(forall ((x E)) (! d) e)", 19, api.ErrUnknown}, {"(exists ((x E)) (! c) !)", 22, api.ErrSyntax},
		// the form of the whole
		{"(forall ((x E) (x E)) true)", 0, api.ErrTwice}, {"(forall ((x E) (x Int)) (< ?x 1))", 0, api.ErrTwice},
	} {
		if x, at, e := Parse(example(), free(), c.s); at != c.at || e != c.e || len(x) > 0 {
			t.Errorf("Parse(%q): %d at %d, want %d at %d", c.s, e, at, c.e, c.at)
		}
	}
	vars := func(count int) string {
		out := ""
		for i := range count {
			out += "(v" + strconv.Itoa(i) + " E) "
		}
		return out
	}
	nots := func(count int) string { return strings.Repeat("(not ", count) + "?b" + strings.Repeat(")", count) }
	for _, c := range []struct {
		s string
		e api.Errno
	}{
		{"(forall (" + vars(12) + ") true)", api.OK}, {"(forall (" + vars(13) + ") true)", api.ErrMany},
		{"(and" + strings.Repeat(" ?b", 1999) + ")", api.OK}, {"(and" + strings.Repeat(" ?b", 2000) + ")", api.ErrMany}, {nots(59), api.OK}, {nots(60), api.ErrDeep}, {nots(9000), api.ErrMany},
	} {
		if x, at, e := Parse(example(), free(), c.s); at != 0 || e != c.e || e != api.OK && len(x) > 0 {
			t.Errorf("Parse(%.40q) of %d bytes: %d at %d, want %d", c.s, len(c.s), e, at, c.e)
		}
	}
	deep := strings.Repeat("(not ", 12000)
	if _, at, e := Parse(example(), free(), deep); at != len(deep) || e != api.ErrSyntax {
		t.Errorf("Parse of a text without an end: %d at %d", e, at)
	}
}

// TestSorts is for P9.5: variables take the sorts of what binds them, operations those of their children.
func TestSorts(t *testing.T) {
	for s, want := range map[string]string{
		"?x": "E", "?i": "Int", "(+ ?r 1/2)": "Real", "(- ?i 1)": "Int", "(ite ?b nil ?l)": "L", "(select$Map<Int,E> ?m 1)": "E",
	} {
		if x := of(t, s); x[len(x)-1].Sort != want {
			t.Errorf("the sort of %s is %q, want %q", s, x[len(x)-1].Sort, want)
		}
	}
	x := of(t, "(and (forall ((x Int)) (exists ((x Bool)) ?x)) (p ?x) (exists ((x Int)) (< ?x 1)))")
	var sorts []string
	for _, n := range x {
		if n.Op == api.LVar {
			sorts = append(sorts, n.Sort)
		}
	}
	if strings.Join(sorts, " ") != "Bool E Int" {
		t.Errorf("the sorts of variables: %q", sorts)
	}
}

// TestRandomTexts is for P9.6: a well-sorted term comes back from its text.
func TestRandomTexts(t *testing.T) {
	m := newMaker(t, 6)
	for range 3000 {
		x := m.formula(scope(), 5)
		s, e := Print(x)
		if e != api.OK {
			t.Fatalf("Print(%v): %d", x, e)
		}
		if back, at, e := Parse(example(), scope(), s); !Same(back, x) || at != 0 || e != api.OK {
			t.Fatalf("Parse(%s): %d at %d", s, e, at)
		}
		spaced := strings.NewReplacer("(", " (\n", ")", " ) ", " ", "  ").Replace(s)
		if back, at, e := Parse(example(), scope(), spaced); !Same(back, x) || at != 0 || e != api.OK {
			t.Fatalf("Parse(%q): %d at %d", spaced, e, at)
		}
	}
}
