package model

import (
	"slices"
	"testing"

	"entail/api"
	"entail/term"
)

// broken returns a value with a change.
func (m *maker) broken(v api.Value) api.Value {
	v.Items = slices.Clone(v.Items)
	at := &v
	for len(at.Items) > 0 && m.Intn(2) == 0 {
		inner := &at.Items[m.Intn(len(at.Items))]
		inner.Items = slices.Clone(inner.Items)
		at = inner
	}
	switch m.Intn(5) {
	case 0:
		at.Kind = m.Intn(api.Kinds+2) - 1
	case 1:
		at.Num = []string{"", "0", "1", "2", "-1", "1/2", "x", "00"}[m.Intn(8)]
	case 2:
		at.Text = []string{"", "nil", "cons", "red", "x"}[m.Intn(5)]
	case 3:
		at.Items = append(at.Items, api.Value{Kind: m.Intn(api.Kinds), Num: "0"})
	default:
		at.Items = at.Items[:max(0, len(at.Items)-1)]
	}
	return v
}

// brokenModel returns a model with a change or two.
func (m *maker) brokenModel() Model {
	out := m.model()
	for range m.Intn(3) {
		table := &out.Tables[m.Intn(len(out.Tables))]
		switch m.Intn(7) {
		case 0:
			out.Universes[m.Intn(len(out.Universes))].Size += m.Intn(5) - 2
		case 1:
			out.Domains = append(out.Domains, Domain{[]string{"Real", "E", "Seq<E>", "G", "Int"}[m.Intn(5)], numbers(0, m.Intn(3)-1)})
		case 2:
			table.Default = m.broken(table.Default)
		case 3:
			table.Entries = append(table.Entries, Entry{Result: table.Default})
		case 4:
			out.Tables = out.Tables[:m.Intn(len(out.Tables))+1]
		case 5:
			d := &out.Domains[m.Intn(len(out.Domains))]
			d.Values = append(slices.Clone(d.Values), m.broken(m.value("L")))
		default:
			table.Name += []string{"", "x"}[m.Intn(2)]
		}
	}
	return out
}

// TestAnyArguments is for P1: no arguments make a function panic, and beside an error there is no result.
func TestAnyArguments(t *testing.T) {
	m := newMaker(138, wideSig(), 2)
	sorts := []string{"Bool", "E", "L", "Int", "Real", "Color", "Box", "Seq<Int>", "Set<E>", "Map<E,Bool>", "Map<Int,Bool>", "Map<Color,E>", "G", ""}
	right, has, total := 0, 0, 1500
	for range total {
		model := m.brokenModel()
		e := Check(m.sig, model)
		if e == api.OK {
			right++
		}
		sort := sorts[m.Intn(len(sorts)-2)]
		v := m.broken(m.value(sort))
		if m.Intn(3) == 0 {
			sort = sorts[m.Intn(len(sorts))]
		}
		is, e1 := HasSort(m.sig, model, sort, v)
		if e != api.OK && e1 != e || is && e1 != api.OK {
			t.Fatalf("HasSort: %v, %d", is, e1)
		}
		if is {
			has++
		}
		names := append(interpretedNames(), "c", "f", "h", "q", "x")
		name := names[m.Intn(len(names))]
		args := []api.Value{m.broken(m.value("Map<E,Bool>")), m.value("E"), m.value("Bool")}[:m.Intn(4)]
		result, e2 := Apply(m.sig, model, name, args)
		if e != api.OK && e2 != e || e2 != api.OK && !isNothing(result) {
			t.Fatalf("Apply: %v, %d", result, e2)
		}
		next, e3 := Set(m.sig, model, name, args, v)
		if e != api.OK && e3 != e || e3 != api.OK && !sameModels(next, Model{}) || e3 == api.OK && Check(m.sig, next) != api.OK {
			t.Fatalf("Set: %v, %d", next, e3)
		}
		text, e4 := Print(m.sig, model)
		if e4 != e || e != api.OK && text != "" {
			t.Fatalf("Print: %q, %d", text, e4)
		}
		x := m.term("Bool", 3, free())
		for range m.Intn(2) {
			n := &x[m.Intn(len(x))]
			n.Op, n.Name = m.Intn(api.TermOps+2)-1, []string{"x", "c", "1", ""}[m.Intn(4)]
		}
		value, e5 := Eval(m.sig, model, m.assigned(), x)
		holds, e6 := Holds(m.sig, model, x)
		exact, e7 := Exact(m.sig, x)
		if e5 != api.OK && !isNothing(value) || holds && e6 != api.OK || exact && e7 != api.OK || term.CheckForm(x) != api.OK && e7 != term.CheckForm(x) {
			t.Fatalf("Eval: %v, %d, Holds: %v, %d, Exact: %v, %d", value, e5, holds, e6, exact, e7)
		}
		found, is, e8 := Find(m.sig, []api.Terms{x}, m.Intn(5), 50)
		if is && (e8 != api.OK || Check(m.sig, found) != api.OK) || !is && !sameModels(found, Model{}) {
			t.Fatalf("Find: %v, %v, %d", found, is, e8)
		}
	}
	if right < total/10 || right > total-total/10 || has < 20 {
		t.Errorf("%d models of %d are right, %d values have a sort", right, total, has)
	}
}
