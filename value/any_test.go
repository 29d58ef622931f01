package value

import (
	"math/rand"
	"testing"

	"entail/api"
	"entail/common"
	"entail/parse"
)

// broken returns a value with a change or two.
func (m maker) broken(v api.Value) api.Value {
	v = common.Clone(v)
	at := &v
	for len(at.Items) > 0 && m.Intn(2) == 0 {
		at = &at.Items[m.Intn(len(at.Items))]
	}
	switch m.Intn(4) {
	case 0:
		at.Kind = m.Intn(api.Kinds+3) - 1
	case 1:
		at.Num = m.pick("", "0", "1", "-1", "01", "1/2", "x", "99999999999999999999999")
	case 2:
		at.Text = m.pick("", "8", "64", "65", "A", "A::B", "::", "\xff")
	default:
		at.Items = append(at.Items, m.value(1))
	}
	return v
}

// TestAnyValues is for P1 and P6.5: no values make a function panic; what is not well-formed is an error, and what an operation returns is well-formed.
func TestAnyValues(t *testing.T) {
	m := maker{rand.New(rand.NewSource(69))}
	p, _, _ := parse.Program(samples)
	for range 6000 {
		l := m.values(1+m.Intn(3), 3)
		good := true
		for i := range l {
			if m.Intn(4) == 0 {
				l[i] = m.broken(l[i])
			}
			good = good && Check(l[i]) == api.OK
		}
		v, e := Apply(m.Intn(api.Ops+2)-1, l)
		if e == api.OK && (!good || Check(v) != api.OK) || e != api.OK && !isNothing(v) {
			t.Fatalf("Apply of %v: %v, %d", l, v, e)
		}
		v, e = Convert(l[0], m.pick("int", "real", "bv8", "bool", "x", ""))
		if e == api.OK && Check(v) != api.OK || e != api.OK && !isNothing(v) {
			t.Fatalf("Convert of %v: %v, %d", l[0], v, e)
		}
		if is, e := HasType(p, l[0], m.pick("int", "seq<T>", "M::List", "Pair<int,T>", "Cell", "Nope<int>", "")); is && e != api.OK {
			t.Fatalf("HasType of %v: %v, %d", l[0], is, e)
		}
	}
}
