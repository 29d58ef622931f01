package tree

import (
	"slices"
	"testing"

	"entail/api"
)

// TestParts is for P2.2 and P2.5: parts of random trees, put together again.
func TestParts(t *testing.T) {
	trees(t, 400, func(m maker, tree api.Tree) {
		for node := range tree {
			sub, e := Sub(tree, node)
			if at, wrong := Check(sub); e != api.OK || wrong != api.OK {
				t.Fatalf("Sub(%v, %d): %d, %d, %d", tree, node, e, at, wrong)
			}
			if sub[len(sub)-1].At != tree[node].At || sub[0].At != tree[node-len(sub)+1].At {
				t.Fatalf("Sub(%v, %d) changes offsets", tree, node)
			}
			kids, e := Kids(tree, node)
			if e != api.OK || len(kids) != len(tree[node].Kids) {
				t.Fatalf("Kids(%v, %d): %d", tree, node, e)
			}
			if back := build(t, tree[node].Op, tree[node].Text, kids...); !Same(back, sub) {
				t.Fatalf("the subtree at %d of %v is not put together again", node, tree)
			}
			same, e := Replace(tree, node, sub)
			if e != api.OK || !Same(same, tree) || !slices.EqualFunc(same, tree, func(a, b api.Node) bool { return a.At == b.At }) {
				t.Fatalf("Replace(%v, %d) by itself: %v, %d", tree, node, same, e)
			}
			parent, e := Parent(tree, node)
			if e != api.OK || parent < 0 != (node == len(tree)-1) || parent >= 0 && !slices.Contains(tree[parent].Kids, node) {
				t.Fatalf("Parent(%v, %d): %d, %d", tree, node, parent, e)
			}
		}
	})
}

// TestReplace is for P2.2: indices, offsets and errors.
func TestReplace(t *testing.T) {
	x, y := raw(api.EVar, "x"), raw(api.EVar, "y")
	sum := raw(api.EAdd, "", x, raw(api.EMul, "", y, y))
	for i, c := range []struct {
		node int
		by   api.Tree
		want string
		e    api.Errno
	}{
		{0, sum, "x + y * y + y * y", api.OK}, {1, sum, "x + (x + y * y) * y", api.OK}, {3, y, "x + y", api.OK}, {4, y, "y", api.OK}, {4, raw(api.SReturn, ""), "return;", api.OK},
		{3, raw(api.TInt, ""), "", api.ErrForm}, {0, tower(59), "", api.OK}, {0, tower(60), "", api.ErrDeep}, {0, wide(3999), "", api.ErrMany},
		{-1, y, "", api.ErrUnknown}, {5, y, "", api.ErrUnknown}, {9, nil, "", api.ErrEmpty}, {9, raw(api.EVar, "Y"), "", api.ErrName},
	} {
		out, e := Replace(sum, c.node, c.by)
		if e != c.e || e != api.OK && out != nil {
			t.Errorf("%d: %d, want %d", i, e, c.e)
		}
		if text, _ := Print(out); c.want != "" && text != c.want {
			t.Errorf("%d: %q, want %q", i, text, c.want)
		}
	}
	if _, e := Replace(raw(api.EVar, "Y"), 9, nil); e != api.ErrName {
		t.Errorf("the first tree's error: %d", e)
	}
	by := raw(api.EVar, "z")
	by[0].At = 77
	if out, _ := Replace(sum, 2, by); out[2].At != 77 || out[1].At != 0 {
		t.Errorf("offsets: %v", out)
	}
}

// TestNoSuchNode is for P2.2: nodes that do not exist.
func TestNoSuchNode(t *testing.T) {
	sum := raw(api.EAdd, "", raw(api.EVar, "x"), raw(api.EVar, "y"))
	for _, node := range []int{-1, 3, 1 << 40, -1 << 40} {
		sub, e1 := Sub(sum, node)
		kids, e2 := Kids(sum, node)
		parent, e3 := Parent(sum, node)
		bound, e4 := Bound(sum, node)
		if sub != nil || kids != nil || parent != 0 || bound != nil || e1 != api.ErrUnknown || e2 != e1 || e3 != e1 || e4 != e1 {
			t.Errorf("node %d: %v, %v, %d, %v, %d, %d, %d, %d", node, sub, kids, parent, bound, e1, e2, e3, e4)
		}
	}
	if parent, e := Parent(nil, -1); parent != 0 || e != api.ErrEmpty {
		t.Errorf("Parent in no tree: %d, %d", parent, e)
	}
}

// TestMemory checks that results share no memory with arguments or with each other. (the rule on memory)
func TestMemory(t *testing.T) {
	sum := func() api.Tree {
		return raw(api.EAdd, "", raw(api.ENot, "", raw(api.EVar, "x")), raw(api.ELet, "y", raw(api.EVar, "x"), raw(api.EVar, "y")))
	}
	arg := sum()
	var results []api.Tree
	sub, _ := Sub(arg, 5)
	made, _ := Make(api.ENot, "", []api.Tree{arg})
	kids, _ := Kids(arg, 5)
	again, _ := Kids(arg, 5)
	replaced, _ := Replace(arg, 0, raw(api.ENot, "", raw(api.EVar, "z")))
	renamed, _ := Rename(arg, "x", "q")
	substituted, _ := Subst(arg, "x", arg)
	untouched, _ := Subst(arg, "q", arg)
	results = append(results, sub, made, replaced, renamed, substituted, untouched)
	results = append(append(results, kids...), again...)
	for _, r := range results {
		for i := range r {
			r[i].Text, r[i].Op = "changed", -1
			for k := range r[i].Kids {
				r[i].Kids[k] = -3
			}
		}
	}
	if !Same(arg, sum()) {
		t.Errorf("the argument is changed: %v", arg)
	}
	if Check(kids[0]); kids[0][0].Op != -1 {
		t.Error("not all results were changed")
	}
	one, _ := Subst(raw(api.EAdd, "", raw(api.EVar, "x"), raw(api.EVar, "x")), "x", raw(api.ENot, "", raw(api.EVar, "y")))
	one[1].Kids[0] = 9
	if one[3].Kids[0] != 2 {
		t.Errorf("the copies of an expression share memory: %v", one)
	}
}
