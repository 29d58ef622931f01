package pattern

import (
	"math/rand"
	"slices"
	"testing"

	"entail/api"
	"entail/tree"
	"entail/types"
	"entail/value"
)

// TestCaseLaws is for P10.4: a value that matches the missing pattern matches no pattern of the list, and there is one; if there is no missing pattern, each value matches one; a redundant pattern is never the first one; and a pattern that is useful is the only one that matches some value.
func TestCaseLaws(t *testing.T) {
	m := newMaker(t, 104)
	for _, typ := range lawTypes {
		all := m.values(typ, 3)
		for range 25 {
			l := m.patterns(t, typ, 1+m.Intn(6), 1+m.Intn(2))
			missing, is, e1 := Missing(m.tree, typ, l)
			redundant, e2 := Redundant(m.tree, typ, l)
			if e1 != api.OK || e2 != api.OK {
				t.Fatalf("%s, %s: %d, %d", typ, showAll(l), e1, e2)
			}
			if _, _, e := Check(m.tree, typ, missing); is && e != api.OK {
				t.Fatalf("Missing(%s, %s) is %s, which is not right: %d", typ, showAll(l), show(missing), e)
			}
			firsts, left := map[int]bool{}, 0
			for _, v := range all {
				first, e := First(l, v)
				if e != api.OK {
					t.Fatalf("First(%s, %s): %d", showAll(l), textOf(v), e)
				}
				firsts[first] = true
				if _, matches, _ := Match(missing, v); is && matches {
					left++
					if first >= 0 {
						t.Fatalf("Missing(%s, %s) is %s, but %s matches %d", typ, showAll(l), show(missing), textOf(v), first)
					}
				}
			}
			if firsts[-1] != is || (left > 0) != is {
				t.Fatalf("Missing(%s, %s): %s, %v", typ, showAll(l), show(missing), is)
			}
			for i := range l {
				if firsts[i] == slices.Contains(redundant, i) {
					t.Fatalf("Redundant(%s, %s): %v, but %v are the first ones", typ, showAll(l), redundant, firsts)
				}
			}
		}
	}
}

// TestTreeLaws is for P10.4: a decision tree finds for each value the first pattern that matches, and asks no part twice on one way; it is right, and Run makes as many tests as there are on the way.
func TestTreeLaws(t *testing.T) {
	m := newMaker(t, 105)
	for _, typ := range lawTypes {
		all := m.values(typ, 3)
		for range 25 {
			l := m.patterns(t, typ, m.Intn(7), 1+m.Intn(3))
			d, e := Compile(m.tree, typ, l)
			if e != api.OK {
				t.Fatalf("Compile(%s, %s): %d", typ, showAll(l), e)
			}
			if at, e := CheckTests(d); e != api.OK {
				t.Fatalf("Compile(%s, %s) is not right: %d at %d", typ, showAll(l), e, at)
			}
			checkWays(t, d, 0, nil)
			for range 60 {
				v := all[m.Intn(len(all))]
				first, _ := First(l, v)
				number, made, e := Run(d, v)
				if number != first || made != steps(d, v) || e != api.OK {
					t.Fatalf("Run(%s, %s): %d, %d, %d, want %d", showAll(l), textOf(v), number, made, e, first)
				}
			}
		}
	}
}

// checkWays checks that no path is tested twice from a test on.
func checkWays(t *testing.T, d []Test, at int, before [][]int) {
	t.Helper()
	if d[at].Leaf {
		return
	}
	if slices.ContainsFunc(before, func(path []int) bool { return slices.Equal(path, d[at].Path) }) {
		t.Fatalf("the path %v is tested twice in %v", d[at].Path, d)
	}
	before = append(slices.Clone(before), d[at].Path)
	for _, next := range d[at].Next {
		checkWays(t, d, next, before)
	}
	if d[at].Else >= 0 {
		checkWays(t, d, d[at].Else, before)
	}
}

// steps counts the tests for a value.
func steps(d []Test, v api.Value) int {
	out := 0
	for at := 0; !d[at].Leaf; out++ {
		part, _ := Path(v, d[at].Path)
		label := textOf(part)
		if part.Kind == api.VCons {
			label = part.Text
		}
		if i := slices.Index(d[at].Labels, label); i >= 0 {
			at = d[at].Next[i]
		} else {
			at = d[at].Else
		}
	}
	return out
}

// TestAnyTests is for P1 and P10.3: decision trees with changes are right or have an error, and Run ends.
func TestAnyTests(t *testing.T) {
	r := rand.New(rand.NewSource(106))
	values := []api.Value{valueOf(t, "Nil()"), valueOf(t, "Cons(0, Nil())"), valueOf(t, "Cons(1, 2)"), valueOf(t, "3"), {Kind: -1}}
	good := 0
	for range 20000 {
		d := example()
		for range 1 + r.Intn(2) {
			x := &d[r.Intn(len(d))]
			switch r.Intn(7) {
			case 0:
				x.Leaf = !x.Leaf
			case 1:
				x.Case = r.Intn(40) - 5
			case 2:
				x.Path = append(slices.Clone(x.Path), r.Intn(4)-1)
			case 3:
				x.Labels = append(slices.Clone(x.Labels), []string{"0", "x", "Cons"}[r.Intn(3)])
			case 4:
				x.Next = append(slices.Clone(x.Next), r.Intn(7)-1)
			case 5:
				x.Else = r.Intn(8) - 2
			default:
				d = append(d, Test{Leaf: true})
			}
		}
		at, e := CheckTests(d)
		if at < 0 || at >= len(d) || e == api.OK && at != 0 {
			t.Fatalf("CheckTests(%v): %d, %d", d, at, e)
		}
		if e == api.OK {
			good++
		}
		text, printed := Print(d)
		if printed != e || (text == "") != (e != api.OK) {
			t.Fatalf("Print(%v): %q, %d", d, text, printed)
		}
		for _, v := range values {
			number, made, run := Run(d, v)
			if e != api.OK && run != e || run != api.OK && number != 0 || run != api.OK && made != 0 {
				t.Fatalf("Run(%v, %s): %d, %d, %d", d, textOf(v), number, made, run)
			}
		}
	}
	if good < 500 {
		t.Errorf("%d trees are right", good)
	}
}

// TestAnyPatterns is for P1: no trees make a function panic, and beside an error there is no result.
func TestAnyPatterns(t *testing.T) {
	m := newMaker(t, 107)
	texts := []string{"", "x", "Nil", "Cons", "Two", "true", "0", "999"}
	for range 3000 {
		typ := lawTypes[m.Intn(len(lawTypes))]
		p := of(t, m.pattern(typ, 3))
		for range m.Intn(4) {
			n := &p[m.Intn(len(p))]
			switch m.Intn(4) {
			case 0:
				n.Op = []int{api.PVar, api.PWild, api.PCons, api.PLit, api.EInt, api.EBool, api.ENeg, -1, api.Ops}[m.Intn(9)]
			case 1:
				n.Text = texts[m.Intn(len(texts))]
			case 2:
				n.Kids = append(slices.Clone(n.Kids), m.Intn(len(p)+2)-1)
			default:
				n.At -= m.Intn(2)
			}
		}
		l := []api.Tree{of(t, "_"), p}
		v := valueOf(t, "Cons(1, Nil())")
		_, formed := tree.Check(p)
		vars, node, e := Check(m.tree, typ, p)
		if e != api.OK && len(vars) > 0 || e == api.OK && node != 0 || formed != api.OK && e != formed {
			t.Fatalf("Check(%s, %v): %v, %d, %d", typ, p, vars, node, e)
		}
		bindings, is, e := Match(p, v)
		if e != api.OK && (is || len(bindings) > 0) {
			t.Fatalf("Match(%v): %v, %v, %d", p, bindings, is, e)
		}
		first, e := First(l, v)
		if e != api.OK && first != 0 {
			t.Fatalf("First(%v): %d, %d", p, first, e)
		}
		if missing, found, e := Missing(m.tree, typ, l); found || len(missing) > 0 || e != api.OK && e != errorOf(m.tree, typ, p) {
			t.Fatalf("Missing(%s, %v): %v, %v, %d", typ, p, missing, found, e)
		}
		if useful, e := Useful(m.tree, typ, nil, p); useful != (e == api.OK) || e != errorOf(m.tree, typ, p) {
			t.Fatalf("Useful(%s, %v): %v, %d", typ, p, useful, e)
		}
	}
}

// errorOf returns the error of a pattern.
func errorOf(p api.Tree, typ string, pattern api.Tree) api.Errno {
	_, _, e := Check(p, typ, pattern)
	return e
}

// TestUnchanged is for P10.1 to P10.3: arguments are not changed.
func TestUnchanged(t *testing.T) {
	p := programOf(t, samples)
	before := programOf(t, samples)
	texts := []string{"Cons(0, Nil)", "Nil", "Cons(_, Cons(x, _))"}
	l, same := listOf(t, texts...), listOf(t, texts...)
	Missing(p, "D", l)
	Redundant(p, "D", l)
	d, _ := Compile(p, "D", l)
	again, _ := Compile(p, "D", l)
	d[0].Labels[0], d[0].Next[0] = "x", 7
	if d[2].Path != nil {
		d[2].Path[0] = 9
	}
	if !tree.Same(p, before) || !slices.EqualFunc(l, same, tree.Same) {
		t.Error("the arguments were changed")
	}
	if third, _ := Compile(p, "D", l); !sameTests(again, third) {
		t.Errorf("Compile: %v, then %v", again, third)
	}
	if is, e := value.HasType(p, valueOf(t, "Nil()"), "D"); !is || e != api.OK {
		t.Errorf("HasType: %v, %d", is, e)
	}
	if base, e := types.Base(p, "Row"); base != "List<int>" || e != api.OK {
		t.Errorf("Base: %s, %d", base, e)
	}
}
