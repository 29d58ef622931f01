package parse

import (
	"math/rand"
	"strings"
	"testing"

	"entail/api"
	"entail/lex"
	"entail/tree"
)

// starts are the functions with the rules that they begin with.
var starts = []struct {
	start string
	parse parserOf
}{{"Expr", Expression}, {"Pattern", Pattern}, {"Type", Type}, {"Stmt", Statement}, {"Decl", Declaration}, {"Program", Program}}

// eachTree calls a test with random texts that have trees.
func eachTree(t *testing.T, n int, test func(r *rand.Rand, parse parserOf, text string, parsed api.Tree)) {
	r := rand.New(rand.NewSource(44))
	w, count := newWriter(newGrammar(), r), 0
	for i := range n {
		s := starts[i%len(starts)]
		words := w.sentence(s.start, r.Intn(60))
		text := strings.Join(words, " ")
		if parsed, _, e := s.parse(text); e == api.OK {
			count++
			test(r, s.parse, text, parsed)
		}
	}
	if count < n/2 {
		t.Errorf("only %d of %d texts have trees", count, n)
	}
}

// TestPrinted is for P4.4: a printed tree is read to the same tree, unless its text is too deep.
func TestPrinted(t *testing.T) {
	eachTree(t, 20000, func(_ *rand.Rand, parse parserOf, text string, parsed api.Tree) {
		printed, e := tree.Print(parsed)
		if e != api.OK {
			t.Fatalf("%q: Print: %d", text, e)
		}
		again, at, e := parse(printed)
		if e != api.ErrDeep && (e != api.OK || !tree.Same(parsed, again)) {
			t.Fatalf("%q is printed as %q: %d at %d, %v", text, printed, e, at, again)
		}
	})
}

// TestPrintedConditions is for P4.4: conditions with a set in front stand in parentheses behind each `if` of a statement, and are read again.
func TestPrintedConditions(t *testing.T) {
	for _, s := range []string{
		"if ({a} <= b) {\n} else if ({a} <= b) {\n} else if ({a}.f) {\n} else {\n}",
		"if a {\n} else if ({}) {\n  if b {\n  } else if ({} == {a}[b]) {\n  }\n}",
		"if a {\n} else if b == {a} {\n} else if (if {a} == b then c else d) == c {\n}",
		"if {\n  case {a} <= b => {\n    if a {\n    } else if ({b} == c && d) {\n    }\n  }\n}",
	} {
		parsed, _, e := Statement(s)
		if e != api.OK {
			t.Errorf("%q: %d", s, e)
			continue
		}
		if printed, e := tree.Print(parsed); printed != s || e != api.OK {
			t.Errorf("%q is printed as %q, %d", s, printed, e)
		}
	}
}

// TestFormatted is for P4.4: formatting a formatted text changes nothing, and keeps the tree.
func TestFormatted(t *testing.T) {
	eachTree(t, 12000, func(_ *rand.Rand, _ parserOf, text string, parsed api.Tree) {
		if parsed[len(parsed)-1].Op != api.MProgram {
			return
		}
		once, _, e := Format(text)
		if e != api.OK {
			t.Fatalf("Format(%q): %d", text, e)
		}
		twice, _, e := Format(once)
		if e == api.ErrDeep {
			return
		}
		again, _, _ := Program(once)
		if e != api.OK || twice != once || !tree.Same(parsed, again) {
			t.Fatalf("Format(%q): %q, then %q, %d", text, once, twice, e)
		}
	})
}

// TestSpaces is for P4.4: comments and spaces change offsets alone, and these as the tokens stand.
func TestSpaces(t *testing.T) {
	gaps := []string{" ", "\n", "\t \r", " /**/", " // x\n", "\n/* ( */"} // a comment behind a slash would become another one
	eachTree(t, 6000, func(r *rand.Rand, parse parserOf, text string, parsed api.Tree) {
		tokens, _, _ := lex.Tokens(text)
		var spaced strings.Builder
		places := map[int]int{0: 0} // the offsets of tokens, by the earlier ones
		spaced.WriteString(gaps[r.Intn(len(gaps))])
		for _, token := range tokens {
			places[token.At] = spaced.Len()
			if token.Text == ">>" {
				places[token.At+1] = spaced.Len() + 1
			}
			spaced.WriteString(token.Text + gaps[r.Intn(len(gaps))])
		}
		again, at, e := parse(spaced.String())
		if e != api.OK || !tree.Same(parsed, again) {
			t.Fatalf("%q: %d at %d", spaced.String(), e, at)
		}
		for i, n := range again {
			module := n.Op == api.MProgram || n.Op == api.MModule && n.Text == ""
			if want := places[parsed[i].At]; n.At != want && !(module && n.At == 0) {
				t.Fatalf("%q: node %d is at %d, want %d", spaced.String(), i, n.At, want)
			}
		}
	})
}

// TestPrintedOperators is for P4.4: all pairs of operations, one as an operand of the other, come back from their text.
func TestPrintedOperators(t *testing.T) {
	leaf := func() api.Tree { return api.Tree{{Op: api.EVar, Text: "x"}} }
	var trees func(depth int) []api.Tree
	trees = func(depth int) []api.Tree {
		if depth == 0 {
			return []api.Tree{leaf()}
		}
		var out []api.Tree
		add := func(op int, text string, kids ...api.Tree) {
			made, e := tree.Make(op, text, kids)
			if e != api.OK {
				t.Fatalf("Make(%d): %d", op, e)
			}
			out = append(out, made)
		}
		for _, inner := range append(trees(depth-1), leaf()) {
			for op := api.EAdd; op <= api.EShr; op++ {
				add(op, "", inner, leaf())
				add(op, "", leaf(), inner)
			}
			add(api.ENot, "", inner)
			add(api.ENeg, "", inner)
			add(api.ECard, "", inner)
			add(api.EField, "f", inner)
			add(api.EIndex, "", inner, inner)
			add(api.EIf, "", inner, inner, inner)
			add(api.ELet, "y", inner, inner)
		}
		return out
	}
	for _, made := range trees(2) {
		text, _ := tree.Print(made)
		if again, at, e := Expression(text); e != api.OK || !tree.Same(made, again) {
			t.Fatalf("%q: %d at %d, %v, want %v", text, e, at, again, made)
		}
	}
}

// TestMemory is for the rule that results share no memory, also where a chain has an operand twice.
func TestMemory(t *testing.T) {
	a, _, _ := Expression("x < f(y) < z")
	for i := range a {
		for j := range a[i].Kids {
			a[i].Kids[j] = -1 - i
		}
	}
	for i := range a {
		for _, kid := range a[i].Kids {
			if kid != -1-i {
				t.Errorf("node %d shares its children: %v", i, a)
			}
		}
	}
	if b, _, e := Expression("x < f(y) < z"); e != api.OK || len(b) != 9 {
		t.Errorf("again: %v, %d", b, e)
	}
}
