package num

import (
	"testing"

	"entail/api"
)

// lawful returns numbers whose sums and products are all within the limit.
func lawful() []string {
	var out []string
	for _, s := range samples() {
		if len(s) <= 20 {
			out = append(out, s)
		}
	}
	return append(out, "3", "-3", "12", "999999999", "1000000000", "-1000000001")
}

// sure returns a result that must not be an error.
func sure(t *testing.T) func(string, api.Errno) string {
	return func(s string, e api.Errno) string {
		t.Helper()
		if e != api.OK {
			t.Fatalf("error %d", e)
		}
		return s
	}
}

// TestRing is for P1.4: the laws of an ordered ring.
func TestRing(t *testing.T) {
	ok, list := sure(t), lawful()
	for _, a := range list {
		for _, b := range list {
			sum, product := ok(Add(a, b)), ok(Mul(a, b))
			if sum != ok(Add(b, a)) || product != ok(Mul(b, a)) {
				t.Errorf("%s and %s do not commute", a, b)
			}
			if ok(Sub(sum, b)) != a || ok(Add(a, ok(Neg(b)))) != ok(Sub(a, b)) {
				t.Errorf("%s and %s: the difference", a, b)
			}
			if b != "0" {
				d, r, e := DivMod(a, b)
				if back := ok(Add(ok(Mul(b, d)), r)); e != api.OK || back != a {
					t.Errorf("DivMod(%s, %s): %s, %s give %s back", a, b, d, r, back)
				}
			}
			for _, c := range list {
				if ok(Add(sum, c)) != ok(Add(a, ok(Add(b, c)))) || ok(Mul(product, c)) != ok(Mul(a, ok(Mul(b, c)))) {
					t.Errorf("%s, %s and %s are not associative", a, b, c)
				}
				if ok(Mul(sum, c)) != ok(Add(ok(Mul(a, c)), ok(Mul(b, c)))) {
					t.Errorf("%s, %s and %s are not distributive", a, b, c)
				}
				before, _ := Compare(a, b)
				if after, _ := Compare(ok(Add(a, c)), ok(Add(b, c))); before != after {
					t.Errorf("the order of %s and %s changes with %s", a, b, c)
				}
			}
		}
	}
}

// TestField is for P1.4: the laws of an ordered field.
func TestField(t *testing.T) {
	ok := sure(t)
	list := []string{"0/1", "1/1", "-1/1", "1/2", "-3/4", "7/3", "123456789/1000000007", "-999999999999/1000000000001", "5/6"}
	for _, a := range list {
		for _, b := range list {
			if ok(SubReal(ok(AddReal(a, b)), b)) != a {
				t.Errorf("%s + %s - %s", a, b, b)
			}
			if b != "0/1" && ok(MulReal(ok(DivReal(a, b)), b)) != a {
				t.Errorf("%s / %s * %s", a, b, b)
			}
			for _, c := range list {
				if ok(AddReal(ok(AddReal(a, b)), c)) != ok(AddReal(a, ok(AddReal(b, c)))) || ok(MulReal(ok(MulReal(a, b)), c)) != ok(MulReal(a, ok(MulReal(b, c)))) {
					t.Errorf("%s, %s and %s are not associative", a, b, c)
				}
				if ok(MulReal(ok(AddReal(a, b)), c)) != ok(AddReal(ok(MulReal(a, c)), ok(MulReal(b, c)))) {
					t.Errorf("%s, %s and %s are not distributive", a, b, c)
				}
				before, _ := CompareReal(a, b)
				if after, _ := CompareReal(ok(AddReal(a, c)), ok(AddReal(b, c))); before != after {
					t.Errorf("the order of %s and %s changes with %s", a, b, c)
				}
			}
		}
	}
}

// TestExamples runs the examples of the chapter. (P1.1 to P1.3)
func TestExamples(t *testing.T) {
	ok := sure(t)
	for i, c := range []struct{ got, want string }{
		{ok(Add("99", "1")), "100"}, {ok(Sub("5", "12")), "-7"}, {ok(Mul("-12", "12")), "-144"}, {ok(Neg("0")), "0"},
		{ok(Real("6", "-4")), "-3/2"}, {ok(AddReal("1/2", "1/3")), "5/6"}, {ok(DivReal("1/2", "-3/4")), "-2/3"}, {ok(Floor("-3/2")), "-2"}, {ok(FromDecimal("12.50")), "25/2"},
		{ok(Wrap("-1", 8)), "255"}, {ok(Bits(BitAdd, 8, "200", "100")), "44"}, {ok(Bits(BitShl, 8, "1", "8")), "0"}, {ok(Bits(BitShr, 8, "200", "3")), "25"}, {ok(Bits(BitXor, 8, "12", "10")), "6"},
	} {
		if c.got != c.want {
			t.Errorf("%d: %s, want %s", i, c.got, c.want)
		}
	}
	for _, c := range [][4]string{{"-7", "2", "-4", "1"}, {"-7", "-2", "4", "1"}, {"7", "-2", "-3", "1"}} {
		if d, r, e := DivMod(c[0], c[1]); d != c[2] || r != c[3] || e != api.OK {
			t.Errorf("DivMod(%s, %s): %s, %s, %d", c[0], c[1], d, r, e)
		}
	}
}
