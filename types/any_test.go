package types

import (
	"math/rand"
	"testing"

	"entail/api"
)

// TestAnyTrees is for P1: no tree and no string makes a function panic, and beside an error there is no result.
func TestAnyTrees(t *testing.T) {
	r := rand.New(rand.NewSource(10))
	p := programOf(t, samples)
	texts := []string{"", "x", "T", "List", "Nat", "M::D", "head", "0", "v_0", "A::B::C", "\xff"}
	for range 3000 {
		tr := make(api.Tree, 0, len(p))
		for _, n := range p[:1+r.Intn(len(p))] {
			n.Kids = append([]int(nil), n.Kids...)
			tr = append(tr, n)
		}
		for range r.Intn(4) {
			n := &tr[r.Intn(len(tr))]
			switch r.Intn(4) {
			case 0:
				n.Op = r.Intn(api.Ops+4) - 2
			case 1:
				n.Text = texts[r.Intn(len(texts))]
			case 2:
				n.Kids = append(n.Kids, r.Intn(len(tr)+4)-2)
			default:
				n.At -= r.Intn(3)
			}
		}
		s := typeOf(r, 2, "T", "Unknown", "Round", "Cell", "Ping", "Loop", "Color")
		for _, c := range calls() {
			c.call(tr, s)
		}
		if node, e := Decl(tr, "List"); e != api.OK && node != 0 {
			t.Fatalf("Decl: %d, %d", node, e)
		}
		if c, e := Signature(tr, "f"); e != api.OK && (c.Name != "" || c.Method || len(c.Params)+len(c.Vars)+len(c.Marks)+len(c.Ghosts)+len(c.Results) > 0) {
			t.Fatalf("Signature: %v, %d", c, e)
		}
		if s, e := Of(tr, r.Intn(len(tr)+2)-1); e != api.OK && s != "" {
			t.Fatalf("Of: %q, %d", s, e)
		}
	}
}

// TestAnyStrings is for P1 and P5.1: strings of any bytes.
func TestAnyStrings(t *testing.T) {
	r := rand.New(rand.NewSource(11))
	parts := []string{"seq", "map", "<", ">", ",", "int", "bv8", "bv", "T", "M::D", "::", "x", " ", "\xff", "é", "0"}
	for range 20000 {
		s := ""
		for range r.Intn(8) {
			s += parts[r.Intn(len(parts))]
		}
		tr, e := Tree(s)
		if e != api.OK {
			continue
		}
		if back, e := Of(tr, len(tr)-1); back != s || e != api.OK {
			t.Fatalf("Tree(%q): %v, which is %q, %d", s, tr, back, e)
		}
	}
}
