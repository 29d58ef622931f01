package calls

import (
	"math/rand"
	"slices"
	"testing"

	"entail/api"
	"entail/module"
)

// TestAnyTrees is for P1: no trees make a function panic, and beside an error there is no result.
func TestAnyTrees(t *testing.T) {
	r := rand.New(rand.NewSource(114))
	p := programOf(t, others+example)
	names := []string{"f", "run", "prove", "M::f", "D", "", "x"}
	right := 0
	for range 3000 {
		tr := make(api.Tree, 0, len(p))
		for _, n := range p {
			n.Kids = slices.Clone(n.Kids)
			tr = append(tr, n)
		}
		if r.Intn(5) == 0 {
			tr = tr[:r.Intn(len(tr))]
		}
		for range r.Intn(3) {
			if len(tr) == 0 {
				break
			}
			n := &tr[r.Intn(len(tr))]
			switch r.Intn(4) {
			case 0:
				n.Op = r.Intn(api.Ops+2) - 1
			case 1:
				n.Text = names[r.Intn(len(names))]
			case 2:
				n.Kids = append(n.Kids, r.Intn(len(tr)+2)-1)
			default:
				n.At -= r.Intn(2)
			}
		}
		_, e := module.Names(tr)
		if e == api.OK {
			right++
		}
		for function, call := range named() {
			something, got := call(tr, names[r.Intn(len(names))])
			if got != api.OK && something || e != api.OK && got != e {
				t.Fatalf("%s: %v, %d, but the program has %d", function, something, got, e)
			}
		}
		if l, is, e := LoopMeasure(tr, r.Intn(len(p)+2)-1); e != api.OK && (is || len(l) > 0) {
			t.Fatalf("LoopMeasure: %v, %v, %d", l, is, e)
		}
	}
	if right < 300 {
		t.Errorf("%d programs are right", right)
	}
}
