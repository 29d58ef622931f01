package num

import (
	"math"
	"math/big"
	"math/rand"
	"strconv"
	"strings"
	"testing"

	"entail/api"
)

var nines = strings.Repeat("9", 120)

// digits returns the decimal string of 1 followed by zeros.
func tenTo(n int) string {
	return "1" + strings.Repeat("0", n)
}

// samples returns integers of all sizes: small ones, those around powers of the base of the limbs, and random ones.
func samples() []string {
	r := rand.New(rand.NewSource(1))
	out := []string{"0", "1", "-1", "2", "-2", "7", "-7", "10", nines, "-" + nines, tenTo(119), "-" + tenTo(119)}
	for _, n := range []int{8, 9, 10, 17, 18, 19, 27, 36, 45, 60} {
		out = append(out, tenTo(n), "-"+tenTo(n), strings.Repeat("9", n), "-"+strings.Repeat("9", n))
	}
	for range 60 {
		s := strconv.Itoa(1 + r.Intn(9))
		for range r.Intn(119) {
			s += string("0000123456789999"[r.Intn(16)])
		}
		if r.Intn(2) == 0 {
			s = "-" + s
		}
		out = append(out, s)
	}
	return out
}

func toBig(t *testing.T, s string) *big.Int {
	t.Helper()
	n, ok := new(big.Int).SetString(s, 10)
	if !ok {
		t.Fatalf("%q is no number", s)
	}
	return n
}

// want returns what a function returns for a result.
func want(n *big.Int) (string, api.Errno) {
	s := n.String()
	if len(strings.TrimPrefix(s, "-")) > api.MaxDigits {
		return "", api.ErrLarge
	}
	return s, api.OK
}

// TestCheck is for P1.1: the form and the limit of integers.
func TestCheck(t *testing.T) {
	for s, want := range map[string]api.Errno{
		"0": api.OK, "9": api.OK, "-1": api.OK, "120": api.OK, nines: api.OK, "-" + nines: api.OK,
		"": api.ErrForm, "-": api.ErrForm, "-0": api.ErrForm, "--1": api.ErrForm, "+1": api.ErrForm, "00": api.ErrForm,
		"-01": api.ErrForm, "007": api.ErrForm, "1 ": api.ErrForm, " 1": api.ErrForm, "1-": api.ErrForm, "1.0": api.ErrForm,
		"1/2": api.ErrForm, "٣": api.ErrForm, "\xff": api.ErrForm, "0x1": api.ErrForm,
		nines + "9": api.ErrLarge, "-" + nines + "9": api.ErrLarge, "0" + nines: api.ErrForm, nines + "x": api.ErrForm,
	} {
		if e := Check(s); e != want {
			t.Errorf("Check(%q): %d, want %d", s, e, want)
		}
	}
}

// TestInts is for P1.1: FromInt and ToInt.
func TestInts(t *testing.T) {
	for _, n := range []int{0, 1, -1, 42, -999999999, 1000000000, math.MaxInt64, math.MinInt64, math.MaxInt64 - 1, math.MinInt64 + 1} {
		s := FromInt(n)
		if s != strconv.Itoa(n) {
			t.Errorf("FromInt(%d): %q", n, s)
		}
		if m, e := ToInt(s); m != n || e != api.OK {
			t.Errorf("ToInt(%q): %d, %d", s, m, e)
		}
	}
	for s, want := range map[string]api.Errno{"9223372036854775808": api.ErrLarge, "-9223372036854775809": api.ErrLarge, "18446744073709551617": api.ErrLarge, nines: api.ErrLarge, nines + "9": api.ErrLarge, "": api.ErrForm, "-0": api.ErrForm, "x": api.ErrForm} {
		if n, e := ToInt(s); n != 0 || e != want {
			t.Errorf("ToInt(%q): %d, %d, want %d", s, n, e, want)
		}
	}
}

// TestIntegers is for P1.1: compared with math/big, with results around the limit.
func TestIntegers(t *testing.T) {
	list := samples()
	for _, a := range list {
		x := toBig(t, a)
		if s, e := Neg(a); s != new(big.Int).Neg(x).String() || e != api.OK {
			t.Errorf("Neg(%s): %s, %d", a, s, e)
		}
		for _, b := range list {
			y := toBig(t, b)
			for name, f := range map[string]struct {
				got  func(a, b string) (string, api.Errno)
				want *big.Int
			}{
				"Add": {Add, new(big.Int).Add(x, y)},
				"Sub": {Sub, new(big.Int).Sub(x, y)},
				"Mul": {Mul, new(big.Int).Mul(x, y)},
				"Gcd": {Gcd, new(big.Int).GCD(nil, nil, new(big.Int).Abs(x), new(big.Int).Abs(y))},
			} {
				s, e := f.got(a, b)
				if ws, we := want(f.want); s != ws || e != we {
					t.Errorf("%s(%s, %s): %s, %d, want %s, %d", name, a, b, s, e, ws, we)
				}
			}
			if c, e := Compare(a, b); c != x.Cmp(y) || e != api.OK {
				t.Errorf("Compare(%s, %s): %d, %d", a, b, c, e)
			}
		}
	}
}

// TestDivMod is for P1.1: compared with math/big, for all signs and for 0.
func TestDivMod(t *testing.T) {
	list := samples()
	for _, a := range list {
		for _, b := range list {
			d, r, e := DivMod(a, b)
			if b == "0" {
				if d != "" || r != "" || e != api.ErrDivide {
					t.Errorf("DivMod(%s, 0): %q, %q, %d", a, d, r, e)
				}
				continue
			}
			m := new(big.Int)
			q, _ := new(big.Int).DivMod(toBig(t, a), toBig(t, b), m)
			if d != q.String() || r != m.String() || e != api.OK {
				t.Errorf("DivMod(%s, %s): %s, %s, %d, want %s, %s", a, b, d, r, e, q, m)
			}
		}
	}
}

// TestDivisionDigits divides numbers whose limbs make the estimates of quotient digits too large. (P1.1)
func TestDivisionDigits(t *testing.T) {
	r := rand.New(rand.NewSource(2))
	limb := func() string {
		return []string{"000000000", "000000001", "499999999", "500000000", "500000001", "999999998", "999999999"}[r.Intn(7)]
	}
	number := func(limbs int) string {
		s := []string{"1", "2", "499999999", "500000000", "999999999"}[r.Intn(5)]
		for range limbs {
			s += limb()
		}
		return s
	}
	for range 20000 {
		a, b := number(r.Intn(12)), number(r.Intn(6))
		m := new(big.Int)
		q, _ := new(big.Int).DivMod(toBig(t, a), toBig(t, b), m)
		if d, rest, e := DivMod(a, b); d != q.String() || rest != m.String() || e != api.OK {
			t.Fatalf("DivMod(%s, %s): %s, %s, %d, want %s, %s", a, b, d, rest, e, q, m)
		}
	}
}

// TestPow is for P1.1: small bases, the limit, and exponents out of range.
func TestPow(t *testing.T) {
	for _, c := range []struct {
		a    string
		n    int
		want string
		e    api.Errno
	}{
		{"0", 0, "1", api.OK}, {"0", 1000, "0", api.OK}, {"1", 1000, "1", api.OK}, {"-1", 999, "-1", api.OK}, {"-1", 1000, "1", api.OK},
		{"-3", 3, "-27", api.OK}, {"7", 1, "7", api.OK}, {nines, 0, "1", api.OK}, {nines, 1, nines, api.OK}, {nines, 2, "", api.ErrLarge},
		{"10", 119, tenTo(119), api.OK}, {"-10", 119, "-" + tenTo(119), api.OK}, {"10", 120, "", api.ErrLarge}, {"2", 1000, "", api.ErrLarge},
		{"2", 1001, "", api.ErrRange}, {"2", -1, "", api.ErrRange}, {"x", -1, "", api.ErrForm}, {nines + "9", 0, "", api.ErrLarge},
		{"2", math.MinInt64, "", api.ErrRange}, {"2", math.MaxInt64, "", api.ErrRange},
	} {
		if s, e := Pow(c.a, c.n); s != c.want || e != c.e {
			t.Errorf("Pow(%s, %d): %q, %d, want %q, %d", c.a, c.n, s, e, c.want, c.e)
		}
	}
	for n := range 400 {
		s, e := Pow("2", n)
		if ws, we := want(new(big.Int).Exp(big.NewInt(2), big.NewInt(int64(n)), nil)); s != ws || e != we {
			t.Errorf("Pow(2, %d): %q, %d", n, s, e)
		}
	}
}

// TestFirstError checks that the error of the first number comes first, and that every other result is zero then. (P1.1 and P1.2)
func TestFirstError(t *testing.T) {
	large := nines + "9"
	for _, f := range []func(a, b string) (string, api.Errno){Add, Sub, Mul, Gcd, Real} {
		for _, c := range []struct {
			a, b string
			want api.Errno
		}{{"x", large, api.ErrForm}, {large, "x", api.ErrLarge}, {"1", "x", api.ErrForm}, {"1", large, api.ErrLarge}, {"", "0", api.ErrForm}} {
			if s, e := f(c.a, c.b); s != "" || e != c.want {
				t.Errorf("(%.5s, %.5s): %q, %d, want %d", c.a, c.b, s, e, c.want)
			}
		}
	}
	if d, r, e := DivMod("x", "0"); d != "" || r != "" || e != api.ErrForm {
		t.Errorf("DivMod: %q, %q, %d", d, r, e)
	}
	if d, r, e := DivMod("1", large); d != "" || r != "" || e != api.ErrLarge {
		t.Errorf("DivMod: %q, %q, %d", d, r, e)
	}
	if n, e := Compare("1", "01"); n != 0 || e != api.ErrForm {
		t.Errorf("Compare: %d, %d", n, e)
	}
	if s, e := Neg(large); s != "" || e != api.ErrLarge {
		t.Errorf("Neg: %q, %d", s, e)
	}
}
