package walk

import (
	"slices"
	"testing"

	"entail/api"
)

// block is the tree of { var x: int := x; y := x; }.
func block() api.Tree {
	return api.Tree{
		{Op: api.TInt}, {Op: api.EVar, Text: "x"}, {Op: api.SVar, Text: "x", Kids: []int{0, 1}},
		{Op: api.EVar, Text: "y"}, {Op: api.EVar, Text: "x"}, {Op: api.SAssign, Kids: []int{3, 4}},
		{Op: api.SBlock, Kids: []int{2, 5}},
	}
}

// TestWalk is for P2.2: nodes, their order and their children.
func TestWalk(t *testing.T) {
	b := block()
	if !slices.Equal(Parents(b), []int{2, 2, 6, 5, 5, 6, -1}) {
		t.Errorf("Parents: %v", Parents(b))
	}
	for node, want := range []int{0, 1, 0, 3, 4, 3, 0} {
		if got := Start(b, node); got != want {
			t.Errorf("Start(%d): %d, want %d", node, got, want)
		}
	}
	if got := Kids(b, b[6], api.SAssign, api.EVar); !slices.Equal(got, []int{5}) {
		t.Errorf("Kids: %v", got)
	}
	sub := Sub(b, 5)
	if len(sub) != 3 || !slices.Equal(sub[2].Kids, []int{0, 1}) || !slices.Equal(b[5].Kids, []int{3, 4}) {
		t.Errorf("Sub: %v", sub)
	}
	count := 0
	for p := range Nodes(b) {
		if p.Index != count || p.Op != b[count].Op {
			t.Errorf("Nodes: %v", p)
		}
		if count++; count == 4 {
			break
		}
	}
	if count != 4 || At(b, 2).Text != "x" || At(b, 2).Index != 2 {
		t.Errorf("Nodes ends after %d nodes", count)
	}
}

// TestScopes is for P2.3: what is bound at a node, by which node.
func TestScopes(t *testing.T) {
	at := Scopes(block())
	for node, want := range []int{-1, -1, -1, 2, 2, 2, -1} {
		b := at[node].Find("x")
		if (b == nil) != (want < 0) || b != nil && b.Node != want {
			t.Errorf("the binding of x at %d: %v, want %d", node, b, want)
		}
	}
	inner := &Binding{"x", 3, &Binding{"y", 2, &Binding{"x", 1, nil}}}
	if all := inner.All(); len(all) != 2 || all[0].Node != 2 || all[1].Node != 3 {
		t.Errorf("All: %v", all)
	}
	var none *Binding
	if len(none.All()) > 0 || none.Find("x") != nil {
		t.Error("something is bound by nothing")
	}
}
