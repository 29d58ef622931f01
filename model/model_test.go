package model

import (
	"slices"
	"strconv"
	"strings"
	"testing"

	"entail/api"
)

// sameModels compares models.
func sameModels(a, b Model) bool {
	return slices.Equal(a.Universes, b.Universes) &&
		slices.EqualFunc(a.Domains, b.Domains, func(x, y Domain) bool {
			return x.Sort == y.Sort && slices.EqualFunc(x.Values, y.Values, equal)
		}) &&
		slices.EqualFunc(a.Tables, b.Tables, func(x, y Table) bool {
			return x.Name == y.Name && equal(x.Default, y.Default) && slices.EqualFunc(x.Entries, y.Entries, func(e, f Entry) bool {
				return slices.EqualFunc(e.Args, f.Args, equal) && equal(e.Result, f.Result)
			})
		})
}

// TestCheck is for P12.1: models that are right, and the first error of those that are not.
func TestCheck(t *testing.T) {
	sig := sigOf("E F", []string{"L = nil | cons head:E tail:L"}, []string{"c -> E", "f E F -> E", "n -> Int", "l -> L"})
	right := func() Model {
		return Model{
			Universes: []Universe{{"E", 2}, {"F", 3}},
			Domains:   []Domain{{"Int", numbers(0, 2)}, {"L", []api.Value{cons("nil")}}},
			Tables: []Table{
				{"c", nil, ref(1)},
				{"f", []Entry{{[]api.Value{ref(0), ref(2)}, ref(1)}, {[]api.Value{ref(1), ref(2)}, ref(0)}}, ref(0)},
				{"n", []Entry{{nil, integer("5")}}, integer("7")},
				{"l", nil, cons("cons", ref(1), cons("nil"))},
			},
		}
	}
	bad := api.Value{Kind: -1}
	for name, c := range map[string]struct {
		change func(m *Model)
		want   api.Errno
	}{
		"right":                        {func(m *Model) {}, api.OK},
		"no domains":                   {func(m *Model) { m.Domains = nil }, api.OK},
		"no universes":                 {func(m *Model) { m.Universes = nil; m.Domains[0].Sort = "x" }, api.ErrShape},
		"a universe more":              {func(m *Model) { m.Universes = append(m.Universes, Universe{"G", 1}) }, api.ErrShape},
		"a table less":                 {func(m *Model) { m.Tables = m.Tables[:3] }, api.ErrShape},
		"a table more":                 {func(m *Model) { m.Tables = append(m.Tables, Table{}); m.Universes[0].Size = 0 }, api.ErrShape},
		"universes in another order":   {func(m *Model) { slices.Reverse(m.Universes) }, api.ErrName},
		"another universe":             {func(m *Model) { m.Universes[1] = Universe{"L", 0} }, api.ErrName},
		"size 0":                       {func(m *Model) { m.Universes[1].Size = 0 }, api.ErrRange},
		"size -1":                      {func(m *Model) { m.Universes[0].Size = -1; m.Universes[1].Sort = "x" }, api.ErrRange},
		"size 4":                       {func(m *Model) { m.Universes[1].Size = 4; m.Domains[0].Sort = "x" }, api.ErrRange},
		"a domain of no sort":          {func(m *Model) { m.Domains[0].Sort = "Seq<G>"; m.Domains[1].Values = nil }, api.ErrSort},
		"a domain of a small sort":     {func(m *Model) { m.Domains[0] = Domain{"Set<E>", nil} }, api.ErrKind},
		"a domain of Bool":             {func(m *Model) { m.Domains[1] = Domain{"Bool", nil} }, api.ErrKind},
		"a domain of E":                {func(m *Model) { m.Domains[1] = Domain{"E", nil} }, api.ErrKind},
		"a domain twice":               {func(m *Model) { m.Domains[1] = Domain{"Int", nil} }, api.ErrTwice},
		"an empty domain":              {func(m *Model) { m.Domains[1].Values = nil }, api.ErrEmpty},
		"50 values":                    {func(m *Model) { m.Domains[0].Values = numbers(1, 50) }, api.OK},
		"51 values":                    {func(m *Model) { m.Domains[0].Values = append(numbers(1, 50), bad) }, api.ErrMany},
		"a value of another sort":      {func(m *Model) { m.Domains[0].Values[1] = ref(1) }, api.ErrType},
		"a value twice":                {func(m *Model) { m.Domains[0].Values[2] = integer("0") }, api.ErrTwice},
		"a value twice, then a bad":    {func(m *Model) { m.Domains[0].Values[1], m.Domains[0].Values[2] = integer("0"), bad }, api.ErrTwice},
		"a bad value twice":            {func(m *Model) { m.Domains[0].Values[1], m.Domains[0].Values[2] = bad, bad }, api.ErrType},
		"a bad value, then a bad sort": {func(m *Model) { m.Domains[0].Values[1], m.Domains[1].Sort = bad, "x" }, api.ErrType},
		"a bad domain, a bad table":    {func(m *Model) { m.Domains[1].Values[0], m.Tables[0].Name = bad, "x" }, api.ErrType},
		"another table":                {func(m *Model) { m.Tables[0].Name, m.Tables[0].Default = "f", bad }, api.ErrName},
		"tables in another order":      {func(m *Model) { m.Tables[0], m.Tables[2] = m.Tables[2], m.Tables[0] }, api.ErrName},
		"301 entries":                  {func(m *Model) { m.Tables[1].Entries = make([]Entry, 301); m.Tables[2].Name = "x" }, api.ErrMany},
		"300 bad entries":              {func(m *Model) { m.Tables[1].Entries = make([]Entry, 300) }, api.ErrArgs},
		"too few arguments":            {func(m *Model) { m.Tables[1].Entries[1] = Entry{[]api.Value{bad}, bad} }, api.ErrArgs},
		"too many arguments":           {func(m *Model) { m.Tables[2].Entries[0].Args = []api.Value{ref(0)} }, api.ErrArgs},
		"an argument of another sort":  {func(m *Model) { m.Tables[1].Entries[1].Args[0] = ref(2) }, api.ErrType},
		"a last argument of another":   {func(m *Model) { m.Tables[1].Entries[1].Args[1] = ref(3) }, api.ErrType},
		"a result of another sort":     {func(m *Model) { m.Tables[1].Entries[0].Result = ref(2) }, api.ErrType},
		"an entry twice":               {func(m *Model) { m.Tables[1].Entries[1].Args[0] = ref(0) }, api.ErrTwice},
		"an entry twice, a bad result": {func(m *Model) { m.Tables[1].Entries[1].Args[0], m.Tables[1].Entries[1].Result = ref(0), bad }, api.ErrType},
		"a bad entry, then twice":      {func(m *Model) { m.Tables[1].Entries[0].Result, m.Tables[1].Entries[1].Args[0] = bad, ref(0) }, api.ErrType},
		"twice without arguments":      {func(m *Model) { m.Tables[2].Entries = append(m.Tables[2].Entries, m.Tables[2].Entries[0]) }, api.ErrTwice},
		"an entry twice, a bad rest":   {func(m *Model) { m.Tables[1].Entries[1].Args[0], m.Tables[1].Default = ref(0), bad }, api.ErrTwice},
		"a default of another sort":    {func(m *Model) { m.Tables[0].Default, m.Tables[1].Name = ref(2), "x" }, api.ErrType},
		"no default":                   {func(m *Model) { m.Tables[3].Default = api.Value{} }, api.ErrType},
	} {
		m := right()
		c.change(&m)
		if e := Check(sig, m); e != c.want {
			t.Errorf("Check of %s: %d, want %d", name, e, c.want)
		}
		if c.want == api.OK {
			continue
		}
		_, e1 := HasSort(sig, m, "", bad)
		_, _, e2 := Elements(sig, m, "")
		_, e3 := Apply(sig, m, "", nil)
		_, e4 := Eval(sig, m, make([]Assigned, 101), nil)
		_, e5 := Holds(sig, m, nil)
		_, e6 := Set(sig, m, "", nil, bad)
		_, e7 := Print(sig, m)
		if got := []api.Errno{e1, e2, e3, e4, e5, e6, e7}; !slices.Equal(got, slices.Repeat([]api.Errno{c.want}, 7)) {
			t.Errorf("%s: %v, want %d", name, got, c.want)
		}
	}
}

// TestManyEntries is for P12.1: 300 entries are permitted.
func TestManyEntries(t *testing.T) {
	sig := sigOf("", nil, []string{"f Int -> Int"})
	m := firstModel(t, sig, 1)
	for _, v := range numbers(1, 300) {
		m.Tables[0].Entries = append(m.Tables[0].Entries, Entry{[]api.Value{v}, v})
	}
	if e := Check(sig, m); e != api.OK {
		t.Errorf("Check of 300 entries: %d", e)
	}
	if next, e := Set(sig, m, "f", numbers(300, 300), integer("0")); len(next.Tables[0].Entries) != 300 || !equal(next.Tables[0].Entries[299].Result, integer("0")) || e != api.OK {
		t.Errorf("Set of the last entry: %d", e)
	}
	if next, e := Set(sig, m, "f", numbers(301, 301), integer("0")); len(next.Tables) > 0 || e != api.ErrMany {
		t.Errorf("Set of one more entry: %d", e)
	}
	if _, e := Set(sig, m, "f", numbers(301, 301), ref(0)); e != api.ErrType {
		t.Errorf("Set of one more entry of another sort: %d", e)
	}
}

// TestSignatureErrors is for P12.1, P12.2 and P12.3: the error of the signature comes first.
func TestSignatureErrors(t *testing.T) {
	for want, sig := range badSignatures() {
		m := Model{Universes: []Universe{{"x", 9}}}
		e0 := Check(sig, m)
		is1, e1 := HasSort(sig, m, "", truth(true))
		v2, e2 := Zero(sig, "")
		l3, _, e3 := Elements(sig, m, "")
		v4, e4 := Apply(sig, m, "", nil)
		v5, e5 := Eval(sig, m, nil, nil)
		is6, e6 := Holds(sig, m, nil)
		is7, e7 := Exact(sig, nil)
		m8, e8 := First(sig, 0)
		m9, e9 := Set(sig, m, "", nil, truth(true))
		m10, is10, e10 := Find(sig, make([]api.Terms, 51), 0, 0)
		s11, e11 := Print(sig, m)
		got := []api.Errno{e0, e1, e2, e3, e4, e5, e6, e7, e8, e9, e10, e11}
		if !slices.Equal(got, slices.Repeat([]api.Errno{want}, len(got))) {
			t.Errorf("a signature with the error %d: %v", want, got)
		}
		if is1 || is6 || is7 || is10 || !isNothing(v2) || !isNothing(v4) || !isNothing(v5) || len(l3) > 0 || s11 != "" || !sameModels(m8, Model{}) || !sameModels(m9, Model{}) || !sameModels(m10, Model{}) {
			t.Errorf("a signature with the error %d: results beside it", want)
		}
	}
}

// TestFirst is for P12.1: the model whose tables have no entries.
func TestFirst(t *testing.T) {
	sig := wideSig()
	for size := -1; size <= 5; size++ {
		m, e := First(sig, size)
		if size < 1 || size > 3 {
			if e != api.ErrRange || !sameModels(m, Model{}) {
				t.Errorf("First of the size %d: %v, %d", size, m, e)
			}
			continue
		}
		want := Model{Universes: []Universe{{"E", size}, {"F", size}}}
		for _, f := range sig.Funs {
			zero, _ := Zero(sig, f.Sort)
			want.Tables = append(want.Tables, Table{Name: f.Name, Default: zero})
		}
		if !sameModels(m, want) || e != api.OK || Check(sig, m) != api.OK {
			t.Errorf("First of the size %d: %v, %d", size, m, e)
		}
	}
	if m, e := First(api.Signature{}, 1); !sameModels(m, Model{}) || e != api.OK {
		t.Errorf("First of nothing: %v, %d", m, e)
	}
	two := sigOf("", []string{"P = p x:Int"}, []string{"a -> P", "b -> P"})
	m := firstModel(t, two, 1)
	m.Tables[0].Default.Items[0].Num = "9"
	if shown(m.Tables[1].Default) != "(p 0)" {
		t.Error("two tables of First share memory")
	}
}

// TestSet is for P12.1: entries are replaced, or added at the end; the model that is given stays.
func TestSet(t *testing.T) {
	sig := sigOf("E", nil, []string{"c -> E", "f E E -> E", "n -> Int"})
	m := firstModel(t, sig, 3)
	m.Domains = []Domain{{"Int", numbers(1, 3)}}
	m.Tables[1].Entries = make([]Entry, 0, 10)
	steps := []struct {
		name   string
		args   []api.Value
		result api.Value
		want   string
	}{
		{"f", []api.Value{ref(0), ref(1)}, ref(2), "sort E 3\ndomain Int 1 2 3\nfunction c _!0\nfunction f _!0\n  _!0 _!1 = _!2\nfunction n 0\n"},
		{"f", []api.Value{ref(1), ref(0)}, ref(0), "sort E 3\ndomain Int 1 2 3\nfunction c _!0\nfunction f _!0\n  _!0 _!1 = _!2\n  _!1 _!0 = _!0\nfunction n 0\n"},
		{"f", []api.Value{ref(0), ref(1)}, ref(1), "sort E 3\ndomain Int 1 2 3\nfunction c _!0\nfunction f _!0\n  _!0 _!1 = _!1\n  _!1 _!0 = _!0\nfunction n 0\n"},
		{"n", nil, integer("5"), "sort E 3\ndomain Int 1 2 3\nfunction c _!0\nfunction f _!0\n  _!0 _!1 = _!1\n  _!1 _!0 = _!0\nfunction n 0\n  = 5\n"},
		{"n", nil, integer("6"), "sort E 3\ndomain Int 1 2 3\nfunction c _!0\nfunction f _!0\n  _!0 _!1 = _!1\n  _!1 _!0 = _!0\nfunction n 0\n  = 6\n"},
	}
	for i, c := range steps {
		before, _ := Print(sig, m)
		next, e := Set(sig, m, c.name, c.args, c.result)
		after, _ := Print(sig, m)
		got, _ := Print(sig, next)
		if e != api.OK || got != c.want || after != before {
			t.Fatalf("step %d: %d, %q, the model that was given is %q", i, e, got, after)
		}
		m = next
	}
	args, result := []api.Value{ref(2), ref(2)}, ref(1)
	next, _ := Set(sig, m, "f", args, result)
	args[0].Num = "0"
	next.Tables[1].Entries[0].Args[0].Num = "2"
	next.Domains[0].Values[0].Num = "7"
	next.Universes[0].Size = 1
	if text, _ := Print(sig, m); text != steps[4].want || next.Tables[1].Entries[2].Args[0].Num != "2" {
		t.Errorf("Set shares memory: %q, %v", text, next)
	}
	for _, c := range []struct {
		name   string
		args   []api.Value
		result api.Value
		want   api.Errno
	}{
		{"g", nil, ref(9), api.ErrUnknown},
		{"", nil, ref(9), api.ErrUnknown},
		{"div$Int", numbers(1, 2), integer("1"), api.ErrUnknown},
		{"f", nil, ref(9), api.ErrArgs},
		{"f", []api.Value{ref(9)}, ref(9), api.ErrArgs},
		{"c", []api.Value{ref(0)}, ref(9), api.ErrArgs},
		{"f", []api.Value{ref(0), ref(3)}, ref(9), api.ErrType},
		{"f", []api.Value{integer("0"), ref(0)}, ref(0), api.ErrType},
		{"f", []api.Value{ref(0), ref(0)}, ref(3), api.ErrType},
		{"n", nil, ref(0), api.ErrType},
	} {
		if got, e := Set(sig, m, c.name, c.args, c.result); e != c.want || !sameModels(got, Model{}) {
			t.Errorf("Set of %s: %v, %d, want %d", c.name, got, e, c.want)
		}
	}
	data := sigG()
	if _, e := Set(data, firstModel(t, data, 1), "cons", []api.Value{ref(0), cons("nil")}, cons("nil")); e != api.ErrUnknown {
		t.Errorf("Set of a constructor: %d", e)
	}
}

// TestPrint is for P12.1: the text of a model, with values of all sorts.
func TestPrint(t *testing.T) {
	m := exampleModel()
	if got, e := Print(sigG(), m); got != "sort E 2\nfunction c _!0\nfunction f _!0\n  _!0 = _!1\nfunction p false\n  _!1 = true\n" || e != api.OK {
		t.Errorf("Print: %q, %d", got, e)
	}
	if got, e := Print(api.Signature{}, Model{}); got != "" || e != api.OK {
		t.Errorf("Print of nothing: %q, %d", got, e)
	}
	for want, v := range map[string]struct {
		sort string
		v    api.Value
	}{
		"true": {"Bool", truth(true)}, "-12": {"Int", integer("-12")}, "-1/2": {"Real", fraction("-1/2")}, "_!1": {"E", ref(1)},
		"nil": {"L", cons("nil")}, "(cons _!1 (cons _!0 nil))": {"L", cons("cons", ref(1), cons("cons", ref(0), cons("nil")))},
		"[]": {"Seq<Int>", seq()}, "[3]": {"Seq<Int>", seq(integer("3"))}, "[3 1/2]": {"", seq()}, "[4 5]": {"Seq<Int>", seq(integer("4"), integer("5"))},
		"{}": {"Set<E>", setOf()}, "{_!0 _!1}": {"Set<E>", setOf(ref(0), ref(1))},
		"<7>": {"Map<Int,Int>", mapOf(integer("7"))}, "<7 1:2 -1:3>": {"Map<Int,Int>", mapOf(integer("7"), integer("1"), integer("2"), integer("-1"), integer("3"))},
		"<[] {_!1}:[true]>": {"Map<Set<E>,Seq<Bool>>", mapOf(seq(), setOf(ref(1)), seq(truth(true)))},
	} {
		if v.sort == "" {
			continue
		}
		sig := sigOf("E", []string{"L = nil | cons head:E tail:L"}, []string{"c -> " + v.sort})
		m := Model{Universes: []Universe{{"E", 2}}, Tables: []Table{{"c", nil, v.v}}}
		if got, e := Print(sig, m); got != "sort E 2\nfunction c "+want+"\n" || e != api.OK {
			t.Errorf("Print of %s: %q, %d", want, got, e)
		}
	}
}

// TestPrintLong is for P12.1: a text of 65536 bytes is permitted.
func TestPrintLong(t *testing.T) {
	sig := sigOf("", nil, []string{"f Int -> Int"})
	long := strings.Repeat("9", 107)
	for size := api.MaxText - 1; size <= api.MaxText+1; size++ {
		m := firstModel(t, sig, 1)
		missing := size - len("function f 0\n")
		for i := range 292 {
			arg, result := integer(strconv.Itoa(100+i)+long), integer("1"+long)
			missing -= len("   = \n") + len(arg.Num) + len(result.Num)
			m.Tables[0].Entries = append(m.Tables[0].Entries, Entry{[]api.Value{arg}, result})
		}
		for i := 0; missing > 0; i++ {
			more := min(missing, 12)
			m.Tables[0].Entries[i].Result.Num += strings.Repeat("0", more)
			missing -= more
		}
		text, e := Print(sig, m)
		if fits := size <= api.MaxText; fits && (len(text) != size || e != api.OK) || !fits && (text != "" || e != api.ErrLong) {
			t.Errorf("Print of %d bytes: %d bytes, %d", size, len(text), e)
		}
	}
}
