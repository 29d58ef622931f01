package calls

import (
	"math/big"
	"math/rand"
	"slices"
	"strconv"
	"strings"
	"testing"

	"entail/api"
	"entail/value"
)

// nines returns a number of many digits.
func nines(digits int) string {
	return strings.Repeat("9", digits)
}

// TestLess is for P11.3: the order of values of each kind.
func TestLess(t *testing.T) {
	for _, c := range []struct {
		a, b string
		want bool
	}{
		{"3", "4", true}, {"4", "4", false}, {"5", "4", false}, {"-5", "0", true}, {"-5", "-1", false}, {"-1", "1", true}, {"0", "0", false}, {"0", "1", true}, {"-1", "0", true},
		{"9", "10", true}, {"10", "9", false}, {"-" + nines(120), nines(120), true}, {"-" + nines(120), "-1", false},
		{"1/2", "1/1", false}, {"0/1", "1/1", true}, {"1/2", "3/2", true}, {"1/2", "4/3", false}, {"-1/2", "1/2", true}, {"-1/2", "0/1", false}, {"-1/1", "0/1", true},
		{"-3/1", "-1/1", false}, {"-3/1", "-1/2", false}, {"5/1", "1/1", false}, {"1/1", "1/1", false}, {"0/1", "1/" + nines(120), false}, {"-1/1", "1/" + nines(120), true}, {"0/1", nines(120) + "/1", true},
		{"-" + nines(120) + "/1", "0/1", true}, {"1/2", nines(120) + "/" + nines(119) + "8", false}, {"-1/2", nines(120) + "/" + nines(119) + "8", true},
		{"3bv8", "4bv8", true}, {"4bv8", "4bv8", false}, {"4bv8", "3bv8", false}, {"3bv8", "4bv9", false}, {"9bv8", "10bv8", true}, {"0bv64", "18446744073709551615bv64", true},
		{"false", "true", true}, {"true", "false", false}, {"true", "true", false}, {"false", "false", false},
		{"[]", "[1]", true}, {"[1]", "[]", false}, {"[2]", "[1]", false}, {"[9, 9]", "[1, 1, 1]", true}, {"[1, 2]", "[3]", false},
		{"{}", "{1}", true}, {"{2}", "{1}", false}, {"{1, 2}", "{1}", false}, {"multiset{1}", "multiset{0, 0}", true}, {"multiset{1, 1}", "multiset{0, 2}", false},
		{"map[]", "map[1 := 2]", true}, {"map[1 := 2]", "map[1 := 3]", false}, {"map[1 := 2]", "map[1 := 2, 2 := 1]", true}, {"map[1 := 2, 2 := 1]", "map[3 := 4]", false},
		{"A()", "B(A())", true}, {"A()", "B()", false}, {"B(A(), A())", "B(A())", false}, {"B(A())", "A(B(A()))", true}, {"A([A()])", "B(A(B()))", true}, {"A([B(A())])", "B(A())", false},
		{"A(1)", "A(A())", true}, {"#1", "#2", false}, {"#2", "#1", false}, {"#1", "#1", false},
		{"1", "5/1", false}, {"0", "1bv8", false}, {"false", "1", false}, {"[]", "{1}", false}, {"{}", "multiset{1}", false}, {"0", "[1]", false}, {"A()", "[1]", false}, {"#0", "1", false},
	} {
		if got, e := Less(valueOf(t, c.a), valueOf(t, c.b)); got != c.want || e != api.OK {
			t.Errorf("Less(%.30s, %.30s): %v, %d", c.a, c.b, got, e)
		}
	}
}

// TestBelow is for P11.3: lists, by the first place at which they differ; a list is below each beginning of it.
func TestBelow(t *testing.T) {
	for _, c := range []struct {
		a, b string
		want bool
	}{
		{"2 9", "3 0", true}, {"3 1", "3 2", true}, {"3 2", "3", true}, {"3", "3 2", false}, {"", "", false}, {"1", "", true}, {"", "1", false},
		{"3 2", "3 2", false}, {"3 0", "2 9", false}, {"4 1", "3", false}, {"2", "3 1", true}, {"2 1", "3", true},
		{"-1", "-2", false}, {"-2", "-1", false}, {"-2 0", "-1 5", false}, {"#1 1", "#2 2", false}, {"#1 1", "#1 2", true},
		{"1/2 0", "1/1 5", false}, {"true 1", "true 2", true}, {"1 true", "1 2", false}, {"1", "1/1", false}, {"1 2 3", "1 2", true}, {"1 2", "1 2 3", false},
		{"[2] 0", "[1] 1", false}, {"[1] 0", "[1] 1", true}, {"{1} 3", "{1} 3 4", false},
	} {
		if got, e := Below(valuesOf(t, strings.Fields(c.a)...), valuesOf(t, strings.Fields(c.b)...)); got != c.want || e != api.OK {
			t.Errorf("Below(%s, %s): %v, %d", c.a, c.b, got, e)
		}
	}
}

// TestRank is for P11.3: how many values can follow one.
func TestRank(t *testing.T) {
	for text, want := range map[string]int{
		"7": 7, "-7": 0, "0": 0, "10000": 10000, "-" + nines(120): 0,
		"5/2": 3, "2/1": 3, "0/1": 1, "1/2": 1, "-1/2": 0, "-1/1": 0, "-5/2": 0, "9999/1": 10000, "19999/2": 10000, "-" + nines(120) + "/1": 0,
		"200bv8": 200, "0bv8": 0, "10000bv20": 10000, "false": 0, "true": 1,
		"[]": 0, "[1, 1]": 2, "{1, 2, 3}": 3, "multiset{1, 1}": 2, "map[]": 0, "map[1 := 2, 2 := 2]": 2, "A()": 1, "A(B([C()]))": 3, "#7": 0,
	} {
		if got, e := Rank(valueOf(t, text)); got != want || e != api.OK {
			t.Errorf("Rank(%.30s): %d, %d, want %d", text, got, e, want)
		}
	}
	for _, text := range []string{"10001", nines(120), "10000/1", "20001/2", nines(120) + "/1", "1" + strings.Repeat("0", 119) + "/7", "10001bv20", "18446744073709551615bv64"} {
		if got, e := Rank(valueOf(t, text)); got != 0 || e != api.ErrLarge {
			t.Errorf("Rank(%.30s): %d, %d", text, got, e)
		}
	}
}

// TestOrderErrors is for P11.3: values that are none, and lists that are too long.
func TestOrderErrors(t *testing.T) {
	good, form, kind := valueOf(t, "1"), api.Value{Kind: api.VInt, Num: "01"}, api.Value{Kind: -1}
	for _, c := range []struct {
		a, b api.Value
		want api.Errno
	}{{form, kind, api.ErrForm}, {kind, form, api.ErrKind}, {good, kind, api.ErrKind}, {form, good, api.ErrForm}} {
		if is, e := Less(c.a, c.b); is || e != c.want {
			t.Errorf("Less(%v, %v): %v, %d", c.a, c.b, is, e)
		}
		if is, e := Below([]api.Value{good, c.a}, []api.Value{c.b}); is || e != c.want {
			t.Errorf("Below(%v, %v): %v, %d", c.a, c.b, is, e)
		}
	}
	for _, v := range []api.Value{form, kind} {
		want := value.Check(v)
		if n, e := Rank(v); n != 0 || e != want {
			t.Errorf("Rank(%v): %d, %d", v, n, e)
		}
	}
	many := func(n int, v api.Value) []api.Value { return slices.Repeat([]api.Value{v}, n) }
	for _, c := range []struct {
		a, b []api.Value
		want api.Errno
	}{
		{many(20, good), many(20, good), api.OK},
		{many(21, form), many(20, kind), api.ErrMany},
		{many(20, form), many(21, kind), api.ErrMany},
		{many(20, good), append(many(19, good), kind), api.ErrKind},
		{append(many(2, good), form, kind), append(many(1, kind), form), api.ErrForm},
		{many(2, good), []api.Value{good, kind, form}, api.ErrKind},
	} {
		if is, e := Below(c.a, c.b); is || e != c.want {
			t.Errorf("Below of %d and %d values: %v, %d, want %d", len(c.a), len(c.b), is, e, c.want)
		}
	}
}

// below is the order as the document tells of it.
func below(a, b api.Value) bool {
	number := func(v api.Value) *big.Rat {
		out, _ := new(big.Rat).SetString(v.Num)
		return out
	}
	if a.Kind != b.Kind || a.Kind == api.VRef || a.Kind == api.VBits && a.Text != b.Text {
		return false
	}
	switch a.Kind {
	case api.VInt:
		return number(a).Cmp(number(b)) < 0 && (number(a).Sign() >= 0 || number(b).Sign() >= 0)
	case api.VReal:
		return new(big.Rat).Sub(number(b), number(a)).Cmp(big.NewRat(1, 1)) >= 0 && number(b).Sign() >= 0
	case api.VBits, api.VBool:
		return number(a).Cmp(number(b)) < 0
	case api.VCons:
		x, _ := value.Height(a)
		y, _ := value.Height(b)
		return x < y
	}
	return len(a.Items) < len(b.Items)
}

// randomValue returns a small random value.
func randomValue(r *rand.Rand, depth int) api.Value {
	integer := func() string { return strconv.Itoa(r.Intn(9) - 4) }
	switch kind := r.Intn(api.Kinds); kind {
	case api.VBool:
		return api.Value{Kind: kind, Num: strconv.Itoa(r.Intn(2))}
	case api.VReal:
		v, _ := new(big.Rat).SetString(integer() + "/" + strconv.Itoa(1+r.Intn(3)))
		return api.Value{Kind: kind, Num: v.String()}
	case api.VBits:
		return api.Value{Kind: kind, Num: strconv.Itoa(r.Intn(4)), Text: strconv.Itoa(2 + r.Intn(2))}
	case api.VRef:
		return api.Value{Kind: kind, Num: strconv.Itoa(r.Intn(3))}
	case api.VSeq, api.VSet, api.VMulti, api.VMap, api.VCons:
		if depth == 0 {
			break
		}
		var items []api.Value
		for range 2 * r.Intn(3) {
			items = append(items, randomValue(r, depth-1))
		}
		op := map[int]int{api.VSeq: api.ESeq, api.VSet: api.ESet, api.VMulti: api.EMulti, api.VMap: api.EMap}[kind]
		if kind == api.VCons {
			return api.Value{Kind: kind, Text: "C", Items: items}
		}
		out, _ := value.Apply(op, items)
		return out
	}
	return api.Value{Kind: api.VInt, Num: integer()}
}

// TestOrderLaws is for P11.3 and P11.4: the order is the one that is defined; no value is below itself, it is transitive, and the rank falls where both values are not negative; lists with equal values in front are ordered as without them.
func TestOrderLaws(t *testing.T) {
	r := rand.New(rand.NewSource(113))
	var values []api.Value
	for range 160 {
		values = append(values, randomValue(r, 3))
	}
	isBelow := make([][]bool, len(values))
	for i, a := range values {
		isBelow[i] = make([]bool, len(values))
		for j, b := range values {
			is, e := Less(a, b)
			if is != below(a, b) || e != api.OK {
				t.Fatalf("Less(%v, %v): %v, %d", a, b, is, e)
			}
			isBelow[i][j] = is
			x, _ := Rank(a)
			y, _ := Rank(b)
			if negative := strings.HasPrefix(a.Num, "-"); is && !negative && x >= y || is && strings.HasPrefix(b.Num, "-") {
				t.Fatalf("%v of the rank %d is below %v of the rank %d", a, x, b, y)
			}
		}
		if isBelow[i][i] {
			t.Fatalf("%v is below itself", a)
		}
	}
	for i := range values {
		for j := range values {
			for k := range values {
				if isBelow[i][j] && isBelow[j][k] && !isBelow[i][k] {
					t.Fatalf("%v, %v and %v", values[i], values[j], values[k])
				}
			}
		}
	}
	some := func() []api.Value {
		var out []api.Value
		for range r.Intn(3) {
			out = append(out, values[r.Intn(len(values))])
		}
		return out
	}
	for range 20000 {
		a, b, front := some(), some(), some()
		want := len(a) > len(b)
		for i := range min(len(a), len(b)) {
			if order, _ := value.Compare(a[i], b[i]); order != 0 {
				want = below(a[i], b[i])
				break
			}
		}
		is, e1 := Below(a, b)
		behind, e2 := Below(append(slices.Clone(front), a...), append(slices.Clone(front), b...))
		if is != want || behind != is || e1 != api.OK || e2 != api.OK {
			t.Fatalf("Below(%v, %v): %v, %d; behind %v: %v, %d", a, b, is, e1, front, behind, e2)
		}
	}
}
