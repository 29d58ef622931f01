package value

import (
	"math/rand"
	"slices"
	"testing"

	"entail/api"
)

// apply returns the result of an operation that has one.
func apply(t *testing.T, op int, l ...api.Value) api.Value {
	t.Helper()
	out, e := Apply(op, l)
	if e != api.OK {
		t.Fatalf("Apply(%d, %s): %d", op, show(l), e)
	}
	if e := Check(out); e != api.OK {
		t.Fatalf("Apply(%d, %s) is not well-formed: %d", op, show(l), e)
	}
	return out
}

// has reports whether an operation on two values is true.
func has(t *testing.T, op int, a, b api.Value) bool {
	t.Helper()
	return isTrue(apply(t, op, a, b))
}

// TestSetLaws is for P6.5: sets and multisets are what multiplicities say, and obey the usual laws.
func TestSetLaws(t *testing.T) {
	m := maker{rand.New(rand.NewSource(65))}
	for n := range 3000 {
		kind, display := api.VSet, api.ESet
		if n%2 > 0 {
			kind, display = api.VMulti, api.EMulti
		}
		pool := m.values(4, 2)
		some := func() api.Value {
			var l []api.Value
			for range m.Intn(6) {
				l = append(l, pool[m.Intn(len(pool))])
			}
			return apply(t, display, l...)
		}
		a, b, c := some(), some(), some()
		union, difference, intersection := apply(t, api.EAdd, a, b), apply(t, api.ESub, a, b), apply(t, api.EMul, a, b)
		for _, v := range pool {
			times := func(x api.Value) int {
				out := 0
				for _, item := range x.Items {
					if same(item, v) {
						out++
					}
				}
				return out
			}
			sum := times(a) + times(b)
			if kind == api.VSet {
				sum = max(times(a), times(b))
			}
			if times(union) != sum || times(difference) != max(0, times(a)-times(b)) || times(intersection) != min(times(a), times(b)) || has(t, api.EIn, v, a) != (times(a) > 0) {
				t.Fatalf("%s: %s, %s, %s", show([]api.Value{a, b, v}), text(union), text(difference), text(intersection))
			}
			if kind == api.VMulti && text(apply(t, api.EIndex, a, v)) != text(ofInt(times(a))) {
				t.Fatalf("%s in %s", text(v), text(a))
			}
		}
		if !same(union, apply(t, api.EAdd, b, a)) || !same(apply(t, api.EAdd, union, c), apply(t, api.EAdd, a, apply(t, api.EAdd, b, c))) || !same(intersection, apply(t, api.EMul, b, a)) || !same(apply(t, api.EAdd, difference, intersection), a) {
			t.Fatalf("the laws of %s", show([]api.Value{a, b, c}))
		}
		if has(t, api.ELe, a, b) != same(intersection, a) || has(t, api.ELt, a, b) != (has(t, api.ELe, a, b) && !same(a, b)) || !has(t, api.ELe, difference, a) {
			t.Fatalf("the order of %s", show([]api.Value{a, b}))
		}
	}
}

// TestSequenceLaws is for P6.5: a sequence that is cut in two is the concatenation of its parts.
func TestSequenceLaws(t *testing.T) {
	m := maker{rand.New(rand.NewSource(66))}
	for range 2000 {
		s := apply(t, api.ESeq, m.values(m.Intn(6), 2)...)
		size := len(s.Items)
		at := m.Intn(size + 1)
		left, right := apply(t, api.ESlice, s, ofInt(0), ofInt(at)), apply(t, api.ESlice, s, ofInt(at), ofInt(size))
		if !same(apply(t, api.EAdd, left, right), s) || !has(t, api.ELe, left, s) || has(t, api.ELt, left, s) != (at < size) || text(apply(t, api.ECard, left)) != text(ofInt(at)) {
			t.Fatalf("%s at %d: %s, %s", text(s), at, text(left), text(right))
		}
		if at == size {
			continue
		}
		v := m.value(2)
		changed := apply(t, api.EUpdate, s, ofInt(at), v)
		for i := range size {
			want := s.Items[i]
			if i == at {
				want = v
			}
			if !same(apply(t, api.EIndex, changed, ofInt(i)), want) {
				t.Fatalf("%s with %s at %d: %s", text(s), text(v), at, text(changed))
			}
		}
	}
}

// TestMapLaws is for P6.5: a map has the entry that was put into it last.
func TestMapLaws(t *testing.T) {
	m := maker{rand.New(rand.NewSource(67))}
	for range 2000 {
		keys := m.values(4, 2)
		want := map[string]api.Value{}
		built, joined, list := of("map[]"), of("map[]"), []api.Value{}
		for range m.Intn(8) {
			key, v := keys[m.Intn(len(keys))], m.value(2)
			want[text(key)] = v
			built = apply(t, api.EUpdate, built, key, v)
			joined = apply(t, api.EAdd, joined, apply(t, api.EMap, key, v))
			list = append(list, key, v)
		}
		if !same(built, joined) || !same(built, apply(t, api.EMap, list...)) || text(apply(t, api.ECard, built)) != text(ofInt(len(want))) {
			t.Fatalf("%s, %s", text(built), text(joined))
		}
		for _, key := range keys {
			v, found := want[text(key)]
			if has(t, api.EIn, key, built) != found || found && !same(apply(t, api.EIndex, built, key), v) {
				t.Fatalf("%s in %s, want %v", text(key), text(built), v)
			}
			gone := apply(t, api.ESub, built, apply(t, api.ESet, key))
			if has(t, api.EIn, key, gone) || found && len(gone.Items) != len(built.Items)-2 {
				t.Fatalf("%s without %s: %s", text(built), text(key), text(gone))
			}
		}
	}
}

// TestArgumentsStay is for P6.3 and the rules of memory: arguments are not changed, and results share no memory with them or in themselves.
func TestArgumentsStay(t *testing.T) {
	item := of("[1, {2}]")
	for _, c := range []struct {
		op int
		l  []api.Value
	}{
		{api.ESeq, []api.Value{item, item}}, {api.ESet, []api.Value{item, of("1"), item}}, {api.EMulti, []api.Value{item, of("1"), item}}, {api.EMap, []api.Value{item, item, of("1"), item}},
		{api.EIndex, []api.Value{{Kind: api.VSeq, Items: []api.Value{item}}, of("0")}}, {api.ESlice, []api.Value{{Kind: api.VSeq, Items: []api.Value{item, item}}, of("0"), of("2")}}, {api.EUpdate, []api.Value{of("[1, 2]"), of("0"), item}}, {api.EUpdate, []api.Value{of("map[1 := 2]"), item, item}}, {api.EUpdate, []api.Value{of("multiset{}"), item, of("3")}},
		{api.EAdd, []api.Value{{Kind: api.VSeq, Items: []api.Value{item}}, {Kind: api.VSeq, Items: []api.Value{item}}}}, {api.ESub, []api.Value{{Kind: api.VSet, Items: []api.Value{item}}, of("{}")}},
	} {
		before := show(c.l)
		out := apply(t, c.op, c.l...)
		seen := map[*api.Value]bool{}
		var mark func(v api.Value, found func(*api.Value))
		mark = func(v api.Value, found func(*api.Value)) {
			for i := range v.Items {
				found(&v.Items[i])
				mark(v.Items[i], found)
			}
		}
		for _, v := range c.l {
			mark(v, func(p *api.Value) { seen[p] = true })
		}
		mark(out, func(p *api.Value) {
			if seen[p] {
				t.Errorf("Apply(%d, %s) shares memory", c.op, before)
			}
			seen[p] = true
		})
		if show(c.l) != before {
			t.Errorf("Apply(%d, %s) changes its arguments", c.op, before)
		}
	}
	if v, e := Convert(item, "int"); e != api.ErrKind || !isNothing(v) {
		t.Errorf("Convert: %v, %d", v, e)
	}
}

// TestConvert is for P6.3: conversions between numbers.
func TestConvert(t *testing.T) {
	for _, c := range [][3]string{
		{"3", "real", "3/1"}, {"-3", "real", "-3/1"}, {"0", "real", "0/1"}, {"4/1", "int", "4"}, {"-4/1", "int", "-4"}, {"5", "bv8", "5bv8"}, {"0", "bv1", "0bv1"}, {"255", "bv8", "255bv8"}, {"18446744073709551615", "bv64", "18446744073709551615bv64"}, {"2/1", "bv8", "2bv8"}, {"255bv8", "int", "255"}, {"2bv8", "real", "2/1"}, {"2bv8", "bv2", "2bv2"}, {"3bv2", "bv64", "3bv64"},
		{"true", "bool", "true"}, {"false", "bool", "false"}, {"7", "int", "7"}, {"1/2", "real", "1/2"}, {"7bv8", "bv8", "7bv8"},
	} {
		if v, e := Convert(of(c[0]), c[1]); e != api.OK || text(v) != c[2] {
			t.Errorf("Convert(%s, %s): %s, %d, want %s", c[0], c[1], text(v), e, c[2])
		}
	}
	for _, c := range []struct {
		v, typ string
		want   api.Errno
	}{
		{"1/2", "int", api.ErrRange}, {"-1/2", "bv8", api.ErrRange}, {"256", "bv8", api.ErrRange}, {"-1", "bv8", api.ErrRange}, {"-1/1", "bv8", api.ErrRange}, {"256/1", "bv8", api.ErrRange}, {"4bv8", "bv2", api.ErrRange}, {"2bv2", "bv1", api.ErrRange}, {"18446744073709551616", "bv64", api.ErrRange},
		{"true", "int", api.ErrKind}, {"true", "real", api.ErrKind}, {"true", "bv1", api.ErrKind}, {"[1]", "int", api.ErrKind}, {"{}", "real", api.ErrKind}, {"map[]", "bv8", api.ErrKind}, {"A()", "int", api.ErrKind}, {"#1", "int", api.ErrKind},
		{"1", "bool", api.ErrType}, {"1/2", "bool", api.ErrType}, {"1bv1", "bool", api.ErrType}, {"#1", "bool", api.ErrType}, {"1", "bv0", api.ErrType}, {"1", "bv65", api.ErrType}, {"1", "bv", api.ErrType}, {"1", "bv08", api.ErrType}, {"1", "bv8 ", api.ErrType}, {"1", "bv-8", api.ErrType}, {"1", "", api.ErrType}, {"1", "Int", api.ErrType}, {"1", "seq<int>", api.ErrType}, {"[1]", "seq<int>", api.ErrType}, {"A()", "A", api.ErrType}, {"true", "Bool", api.ErrType}, {"1/2", "Nat", api.ErrType},
		{"01", "int", api.ErrForm}, {"{1, 1}", "none", api.ErrOrder},
	} {
		if v, e := Convert(of(c.v), c.typ); e != c.want || !isNothing(v) {
			t.Errorf("Convert(%s, %q): %v, %d, want %d", c.v, c.typ, v, e, c.want)
		}
	}
}

// TestConvertedBack is for P6.5: what is converted to a type that has it comes back.
func TestConvertedBack(t *testing.T) {
	types := []string{"int", "real", "bv8", "bv3", "bv64"}
	for _, v := range all("0", "1", "7", "200", "-5", "0/1", "3/1", "1/2", "0bv3", "7bv3", "255bv8", "9bv64") {
		from := "int"
		if v.Kind == api.VReal {
			from = "real"
		} else if v.Kind == api.VBits {
			from = "bv" + v.Text
		}
		if !slices.Contains(types, from) {
			t.Fatalf("no type of %s", text(v))
		}
		for _, typ := range types {
			there, e := Convert(v, typ)
			if e == api.ErrRange {
				continue
			}
			if back, f := Convert(there, from); e != api.OK || f != api.OK || !same(back, v) || Check(there) != api.OK {
				t.Errorf("%s as %s is %s, as %s %s: %d, %d", text(v), typ, text(there), from, text(back), e, f)
			}
		}
	}
}
