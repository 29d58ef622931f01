package tree

import (
	"maps"
	"slices"
	"strconv"
	"strings"
	"testing"

	"entail/api"
)

// Short names for the trees of these tests.
func v(name string) api.Tree               { return raw(api.EVar, name) }
func q(name string) api.Tree               { return raw(api.QVar, name, raw(api.TInt, "")) }
func less(a, b api.Tree) api.Tree          { return raw(api.ELt, "", a, b) }
func add(a, b api.Tree) api.Tree           { return raw(api.EAdd, "", a, b) }
func let(x string, a, b api.Tree) api.Tree { return raw(api.ELet, x, a, b) }
func forall(kids ...api.Tree) api.Tree     { return raw(api.EForall, "", kids...) }
func block(kids ...api.Tree) api.Tree      { return raw(api.SBlock, "", kids...) }
func local(x string, kids ...api.Tree) api.Tree {
	return raw(api.SVar, x, append([]api.Tree{raw(api.TInt, "")}, kids...)...)
}
func set(x string, a api.Tree) api.Tree { return raw(api.SAssign, "", v(x), a) }
func match(a api.Tree, cases ...api.Tree) api.Tree {
	return raw(api.EMatch, "", append([]api.Tree{a}, cases...)...)
}
func pair(x, y string) api.Tree {
	return raw(api.PCons, "P", raw(api.PVar, x), raw(api.PVar, y))
}
func typed(op int, name string) api.Tree    { return raw(op, name, raw(api.TInt, "")) }
func clause(op int, a ...api.Tree) api.Tree { return raw(op, "", a...) }

// method has a parameter p and an out-parameter o, and the variables a to d in its clauses.
func method() api.Tree {
	return raw(api.DMethod, "m", typed(api.DParam, "p"), typed(api.DGhostParam, "h"), typed(api.DOut, "o"),
		clause(api.CRequires, add(v("p"), add(v("o"), v("a")))), clause(api.CModifies, add(v("h"), v("b"))),
		clause(api.CEnsures, add(v("p"), add(v("o"), v("c")))), clause(api.CDecreases, v("p"), v("o")), block(set("o", add(v("p"), v("d")))))
}

// TestFree is for P2.3: all binders.
func TestFree(t *testing.T) {
	e := clause
	for i, c := range []struct {
		t    api.Tree
		want string
	}{
		{add(v("x"), add(v("y"), v("x"))), "x y"}, {add(v("M::x"), raw(api.ECall, "f", v("y"))), "y"}, {raw(api.TInt, ""), ""},
		{let("x", v("x"), v("x")), "x"}, {let("x", v("y"), v("x")), "y"}, {let("x", v("y"), add(v("x"), v("z"))), "y z"}, {forall(q("x"), q("y"), e(api.QTrigger, add(v("x"), v("t"))), less(v("y"), v("z"))), "t z"},
		{add(forall(q("x"), v("x")), v("x")), "x"}, {raw(api.EExists, "", q("x"), v("x")), ""}, {raw(api.ESetOf, "", q("x"), less(v("x"), v("y")), add(v("x"), v("z"))), "y z"},
		{match(v("x"), raw(api.ECase, "", pair("x", "y"), add(v("x"), v("y"))), raw(api.ECase, "", raw(api.PVar, "z"), add(v("y"), v("z")))), "x y"}, {raw(api.ECase, "", raw(api.PVar, "x"), v("x")), ""}, {pair("x", "y"), ""},
		{block(local("x", v("x")), set("y", v("x"))), "x y"}, {block(local("x"), local("x", v("x"))), ""}, {block(block(local("x")), set("x", v("y"))), "x y"}, {local("x", v("x")), "x"}, {block(raw(api.SGhostVar, "x", raw(api.TInt, "")), e(api.SPrint, v("x"))), ""},
		{block(set("x", v("z")), local("x"), set("x", v("y"))), "x z y"}, {raw(api.SChoose, "x", less(v("y"), v("x"))), "y x"}, {raw(api.SNew, "x", raw(api.TName, "C"), v("y")), "y x"}, {raw(api.SNewArray, "x", raw(api.TInt, ""), v("y"), v("z")), "y z x"}, {block(local("x"), raw(api.SChoose, "x", v("x"))), ""},
		{raw(api.SCall, "m", e(api.SLhs, v("x"), v("y")), v("z")), "x y z"}, {raw(api.SForall, "", q("x"), less(v("x"), v("a")), e(api.CEnsures, less(v("x"), v("b"))), block(set("c", v("x")))), "a b c"}, {e(api.SMatch, v("x"), e(api.SCase, raw(api.PVar, "x"), block(set("x", v("y"))))), "x y"},
		{raw(api.DSubset, "S", typed(api.DParam, "x"), less(v("x"), v("y")), v("x")), "y x"}, {method(), "o a b c d"}, {raw(api.DConst, "c", raw(api.TInt, ""), v("x")), "x"},
		{raw(api.DFunction, "f", typed(api.DParam, "x"), typed(api.DGhostParam, "y"), clause(api.DResult, raw(api.TInt, "")), e(api.CRequires, v("x")), e(api.CReads, v("y")), e(api.CEnsures, v("z")), e(api.CDecreases, v("x"), v("w")), add(v("x"), v("u"))), "z w u"},
		{raw(api.MModule, "M", raw(api.DConst, "c", raw(api.TInt, ""), v("d"))), "d"}, {block(local("i"), raw(api.SWhile, "", v("i"), e(api.CInvariant, v("j")), block(local("j"), set("i", v("j"))))), "j"},
	} {
		if l, e := Free(c.t); e != api.OK || strings.Join(l, " ") != c.want {
			t.Errorf("%d: Free: %v, %d, want %s", i, l, e, c.want)
		}
	}
}

// TestGlobals is for P2.3: all uses of global names.
func TestGlobals(t *testing.T) {
	tree := block(
		raw(api.SNew, "x", raw(api.TName, "K", raw(api.TName, "T")), raw(api.ECall, "f", raw(api.ECall, "M::g"), v("y"))),
		raw(api.SCall, "m", raw(api.SLhs, ""), v("M::c"), raw(api.EIs, "C", raw(api.ECons, "M::D")), raw(api.EField, "h", v("y"))),
		raw(api.SMatch, "", v("y"), raw(api.SCase, "", raw(api.PCons, "D", raw(api.PCons, "C")), block(raw(api.SReveal, "f"), raw(api.SReveal, "r")))))
	if l, e := Globals(tree); e != api.OK || strings.Join(l, " ") != "T K M::g f M::c M::D C m D r" {
		t.Errorf("Globals: %v, %d", l, e)
	}
	for _, none := range []api.Tree{v("x"), raw(api.DTypeParam, "T"), raw(api.MImport, "A"), raw(api.MRefines, "N"), raw(api.DDatatype, "D", raw(api.DCons, "C")), raw(api.DMethod, "m"), raw(api.MName, "x"), raw(api.SAssert, "l", v("x"))} {
		if l, e := Globals(none); e != api.OK || len(l) != 0 {
			t.Errorf("Globals(%v): %v, %d", none, l, e)
		}
	}
}

// TestBound is for P2.3: all binders, and names that are bound twice.
func TestBound(t *testing.T) {
	whole := method()
	last := len(whole) - 1
	quantified := forall(q("x"), q("y"), q("x"), let("y", v("a"), v("b")))
	statements := block(local("x"), local("y", v("y")), block(local("x"), set("x", v("y"))), local("z"))
	cases := match(v("a"), raw(api.ECase, "", pair("x", "y"), v("b")))
	subset := raw(api.DSubset, "S", typed(api.DParam, "x"), v("a"), v("b"))
	for i, c := range []struct {
		t    api.Tree
		node int
		want string
	}{
		{quantified, 0, ""}, {quantified, 1, ""}, {quantified, 3, ""}, {quantified, 8, "y x"}, {quantified, 6, "y x"}, {quantified, 7, "x y"}, {quantified, len(quantified) - 1, ""},
		{statements, 0, ""}, {statements, 1, ""}, {statements, 2, "x"}, {statements, 3, "x"}, {statements, 4, "x"}, {statements, 5, "x y"}, {statements, 6, "x y"}, {statements, 7, "y x"}, {statements, 9, "y x"}, {statements, 10, "x y"}, {statements, 11, "x y"}, {statements, 12, "x y"}, {statements, 13, ""},
		{cases, 0, ""}, {cases, 1, ""}, {cases, 3, ""}, {cases, 4, "x y"}, {cases, 5, ""}, {subset, 0, ""}, {subset, 2, "x"}, {subset, 3, ""},
		{whole, 1, ""}, {whole, 5, ""}, {whole, 6, "p h"}, {whole, whole[last].Kids[3], "p h"}, {whole, whole[last].Kids[4], "p h"}, {whole, whole[last].Kids[5], "p h o"}, {whole, whole[last].Kids[6], "p h"}, {whole, last - 1, "p h o"}, {whole, last - 2, "p h o"}, {whole, last, ""},
	} {
		if l, e := Bound(c.t, c.node); e != api.OK || strings.Join(l, " ") != c.want {
			t.Errorf("%d: Bound(%d): %v, %d, want %s", i, c.node, l, e, c.want)
		}
	}
}

// TestSubst is for P2.3: which binders are renamed, and how.
func TestSubst(t *testing.T) {
	y1 := add(v("y"), raw(api.EInt, "1"))
	yz := add(v("y"), v("z"))
	for i, c := range []struct {
		t    api.Tree
		by   api.Tree
		want string
	}{
		{v("x"), y1, "y + 1"}, {v("y"), y1, "y"}, {v("M::x"), y1, "M::x"}, {raw(api.EMul, "", v("x"), v("x")), y1, "(y + 1) * (y + 1)"},
		{forall(q("y"), less(v("x"), v("y"))), y1, "forall v_0: int :: y + 1 < v_0"}, {forall(q("x"), less(v("x"), v("y"))), y1, "forall x: int :: x < y"}, {forall(q("y"), v("y")), y1, "forall y: int :: y"}, {forall(q("z"), less(v("x"), v("z"))), y1, "forall z: int :: y + 1 < z"},
		{forall(q("z"), q("y"), raw(api.QTrigger, "", v("y")), less(v("x"), add(v("y"), v("z")))), yz, "forall v_0: int, v_1: int {v_1} :: y + z < v_1 + v_0"},
		{forall(q("y"), forall(q("y"), less(v("x"), v("y")))), y1, "forall v_0: int :: forall v_1: int :: y + 1 < v_1"}, {forall(q("y"), less(v("y"), forall(q("z"), less(v("z"), add(v("y"), v("x")))))), yz, "forall v_0: int :: v_0 < (forall v_1: int :: v_1 < v_0 + (y + z))"},
		{add(let("y", v("x"), add(v("x"), v("y"))), let("z", v("y"), v("x"))), yz, "(var v_0 := y + z; y + z + v_0) + (var v_1 := y; y + z)"}, {let("y", v("x"), v("y")), y1, "var y := y + 1; y"}, {let("x", v("x"), v("x")), y1, "var x := y + 1; x"},
		{let("y", forall(q("y"), less(v("x"), v("y"))), add(v("x"), v("y"))), y1, "var v_0 := forall v_1: int :: y + 1 < v_1; y + 1 + v_0"},
		{raw(api.ESetOf, "", q("y"), less(v("y"), v("x")), v("y")), y1, "set v_0: int | v_0 < y + 1 :: v_0"}, {raw(api.EExists, "", q("y"), raw(api.EExists, "", q("x"), add(v("x"), v("y")))), y1, "exists y: int :: exists x: int :: x + y"},
		{match(v("x"), raw(api.ECase, "", pair("z", "y"), add(v("x"), add(v("y"), v("z")))), raw(api.ECase, "", pair("x", "y"), v("x")), raw(api.ECase, "", raw(api.PVar, "y"), v("x"))), yz, "match y + z { case P(v_0, v_1) => y + z + (v_1 + v_0) case P(x, y) => x case v_2 => y + z }"},
		{forall(q("y"), add(v("x"), add(v("v_0"), v("v_2")))), y1, "forall v_1: int :: y + 1 + (v_0 + v_2)"}, {forall(q("y"), v("x")), add(v("y"), raw(api.EField, "v_0", v("v_1"))), "forall v_2: int :: y + v_1.v_0"},
		{forall(q("y"), v("x")), forall(q("y"), v("y")), "forall y: int :: forall y: int :: y"}, {forall(q("y"), q("y"), less(v("x"), v("y"))), y1, "forall v_0: int, v_1: int :: y + 1 < v_1"},
	} {
		out, e := Subst(c.t, "x", c.by)
		if text, _ := Print(out); e != api.OK || text != c.want {
			t.Errorf("%d: %q, %d, want %q", i, text, e, c.want)
		}
	}
}

// TestSubstErrors is for P2.3: the errors in their order.
func TestSubstErrors(t *testing.T) {
	x, bad, statement := v("x"), v("X"), raw(api.SReturn, "")
	for i, c := range []struct {
		t    api.Tree
		name string
		by   api.Tree
		want api.Errno
	}{
		{nil, "X", bad, api.ErrEmpty}, {bad, "X", nil, api.ErrName}, {x, "X", nil, api.ErrEmpty}, {statement, "X", statement, api.ErrName}, {x, "", x, api.ErrName}, {x, "M::x", x, api.ErrName}, {x, "if", x, api.ErrName},
		{statement, "x", x, api.ErrKind}, {x, "x", statement, api.ErrKind}, {x, "x", raw(api.TInt, ""), api.ErrKind}, {raw(api.PVar, "x"), "x", x, api.ErrKind}, {raw(api.ECase, "", raw(api.PWild, ""), x), "x", x, api.ErrKind},
		{add(x, x), "x", wide(1999), api.OK}, {add(x, x), "x", wide(2000), api.ErrMany}, {wide(4000), "x", wide(4000), api.ErrMany}, {wide(4000), "y", wide(4000), api.OK}, {tower(30), "x", tower(31), api.OK}, {tower(30), "x", tower(32), api.ErrDeep},
	} {
		if out, e := Subst(c.t, c.name, c.by); e != c.want || e != api.OK && out != nil {
			t.Errorf("%d: %d nodes, %d, want %d", i, len(out), e, c.want)
		}
	}
}

// TestRename is for P2.3: free occurrences alone, and the errors.
func TestRename(t *testing.T) {
	body := block(set("x", v("y")), local("x", v("x")), set("x", v("y")))
	for i, c := range []struct {
		t        api.Tree
		from, to string
		want     string
		e        api.Errno
	}{
		{add(v("x"), let("x", v("x"), v("x"))), "x", "z", "z + (var x := z; x)", api.OK}, {add(v("x"), v("y")), "x", "x", "x + y", api.OK}, {v("y"), "x", "z", "y", api.OK}, {body, "x", "z", "{\n  z := y;\n  var x: int := z;\n  x := y;\n}", api.OK},
		{raw(api.SChoose, "x", v("x")), "x", "z", "z :| z;", api.OK}, {raw(api.SNew, "x", raw(api.TName, "C")), "x", "z", "z := new C();", api.OK}, {raw(api.SNewArray, "x", raw(api.TInt, ""), v("x"), v("y")), "x", "z", "z := new array<int>(z, y);", api.OK}, {raw(api.EField, "x", v("x")), "x", "z", "z.x", api.OK},
		{add(v("x"), v("y")), "x", "y", "", api.ErrTwice}, {add(v("y"), v("y")), "x", "y", "", api.ErrTwice}, {raw(api.EField, "z", v("x")), "x", "z", "", api.ErrTwice}, {v("x"), "X", "x", "", api.ErrName}, {v("x"), "x", "X", "", api.ErrName}, {v("x"), "x", "if", "", api.ErrName}, {v("x"), "", "x", "", api.ErrName}, {v("x"), "M::x", "x", "", api.ErrName}, {nil, "X", "X", "", api.ErrEmpty},
	} {
		out, e := Rename(c.t, c.from, c.to)
		if e != c.e || e != api.OK && out != nil {
			t.Errorf("%d: %v, %d, want %d", i, out, e, c.e)
		}
		if text, _ := Print(out); text != c.want {
			t.Errorf("%d: %q, want %q", i, text, c.want)
		}
	}
}

// binder returns the variables that an expression or a case binds, and the number of its first child in which it does.
func binder(t api.Tree, n api.Node) ([]string, int) {
	var names []string
	switch n.Op {
	case api.ELet:
		return []string{n.Text}, 1
	case api.ECase:
		return patternNames(t, n.Kids[0]), 1
	case api.EForall, api.EExists, api.ESetOf:
		for _, kid := range n.Kids {
			if t[kid].Op == api.QVar {
				names = append(names, t[kid].Text)
			}
		}
	}
	return names, len(names)
}

func patternNames(t api.Tree, node int) []string {
	if t[node].Op == api.PVar {
		return []string{t[node].Text}
	}
	var names []string
	for _, kid := range t[node].Kids {
		names = append(names, patternNames(t, kid)...)
	}
	return names
}

// nameless returns a text of an expression in which a bound variable is the number of variables between its binder and itself, so that names do not matter. Free variables stand for what the map has for them.
func nameless(t api.Tree, node int, bound []string, free map[string]string) string {
	n := t[node]
	if n.Op == api.EVar {
		if i := slices.Index(bound, n.Text); i >= 0 {
			return "#" + strconv.Itoa(i)
		}
		if by, found := free[n.Text]; found {
			return by
		}
	}
	names, from := binder(t, n)
	inside := slices.Clone(names)
	slices.Reverse(inside)
	inside = append(inside, bound...)
	out := "(" + strconv.Itoa(n.Op)
	if n.Op != api.ELet && n.Op != api.QVar && n.Op != api.PVar {
		out += " " + n.Text
	}
	for i, kid := range n.Kids {
		if i < from {
			out += nameless(t, kid, bound, free)
		} else {
			out += nameless(t, kid, inside, free)
		}
	}
	return out + ")"
}

// TestSubstMeaning checks random substitutions against a substitution for which names do not matter. (P2.3 and P2.5)
func TestSubstMeaning(t *testing.T) {
	renamings := 0
	trees(t, 8000, func(m maker, tree api.Tree) {
		tree, by := m.expr(1+m.Intn(6)), m.expr(m.Intn(4))
		name := m.variable()
		out, e := Subst(tree, name, by)
		if e == api.ErrMany || e == api.ErrDeep {
			return
		}
		free := map[string]string{name: nameless(by, len(by)-1, nil, nil)}
		if e != api.OK || nameless(out, len(out)-1, nil, nil) != nameless(tree, len(tree)-1, nil, free) {
			a, _ := Print(tree)
			b, _ := Print(by)
			c, _ := Print(out)
			t.Fatalf("%s with %s for %s: %s, %d", a, b, name, c, e)
		}
		checkFresh(t, tree, by, out, &renamings)
		checkFree(t, tree, by, out, name)
	})
	if renamings < 100 {
		t.Errorf("only %d binders were renamed", renamings)
	}
}

// checkFresh checks that the names of a result that are in none of its arguments are those that must be taken, each bound once.
func checkFresh(t *testing.T, tree, by, out api.Tree, renamings *int) {
	t.Helper()
	old, declared := map[string]bool{}, map[string]int{}
	for _, n := range append(slices.Clone(tree), by...) {
		old[n.Text] = true
	}
	for _, n := range out {
		if !old[n.Text] && n.Op != api.EVar {
			declared[n.Text]++
		}
	}
	next := 0
	for range declared {
		for old["v_"+strconv.Itoa(next)] {
			next++
		}
		if name := "v_" + strconv.Itoa(next); declared[name] != 1 {
			t.Fatalf("the names that are new: %v", declared)
		}
		next++
		*renamings++
	}
}

// checkFree checks which variables are free in the result of a substitution.
func checkFree(t *testing.T, tree, by, out api.Tree, name string) {
	t.Helper()
	before, _ := Free(tree)
	inside, _ := Free(by)
	after, _ := Free(out)
	want := map[string]bool{}
	for _, x := range before {
		if x != name {
			want[x] = true
			continue
		}
		for _, y := range inside {
			want[y] = true
		}
	}
	if got := slices.Sorted(slices.Values(after)); !slices.Equal(got, slices.Sorted(maps.Keys(want))) {
		t.Fatalf("free: %v, want %v", got, want)
	}
}

// TestRenameBack is for P2.5: renaming there and back.
func TestRenameBack(t *testing.T) {
	trees(t, 2000, func(m maker, tree api.Tree) {
		name := m.variable()
		out, e := Rename(tree, name, "fresh_1")
		if e != api.OK {
			t.Fatalf("Rename: %d", e)
		}
		before, _ := Free(tree)
		after, _ := Free(out)
		for i := range before {
			if before[i] == name {
				before[i] = "fresh_1"
			}
		}
		if !slices.Equal(before, after) {
			t.Fatalf("free: %v, want %v", after, before)
		}
		if !slices.Contains(before, "fresh_1") && !Same(out, tree) {
			t.Fatal("a bound variable was renamed")
		}
		if back, e := Rename(out, "fresh_1", name); len(before) > 0 && slices.ContainsFunc(out, func(n api.Node) bool { return n.Text == name }) != (e == api.ErrTwice) || e == api.OK && !Same(back, tree) {
			t.Fatalf("there and back: %d", e)
		}
	})
}

// TestFreeAgain compares Free and Bound: an occurrence is free if its name is not bound there. (P2.3)
func TestFreeAgain(t *testing.T) {
	trees(t, 500, func(m maker, tree api.Tree) {
		var want []string
		for i, n := range tree {
			local := n.Op == api.EVar && !strings.Contains(n.Text, "::") || n.Op == api.SNew || n.Op == api.SNewArray || n.Op == api.SChoose
			if bound, _ := Bound(tree, i); local && !slices.Contains(bound, n.Text) && !slices.Contains(want, n.Text) {
				want = append(want, n.Text)
			}
		}
		if got, e := Free(tree); e != api.OK || !slices.Equal(got, want) {
			t.Fatalf("Free: %v, %d, want %v", got, e, want)
		}
	})
}
