package num

import (
	"math/big"
	"strings"
	"testing"

	"entail/api"
)

// fractions returns fractions of all sizes.
func fractions(t *testing.T) []string {
	var out []string
	list := samples()
	for i, a := range list {
		if b := list[(i+7)%len(list)]; b != "0" {
			s, e := Real(a, b)
			if e != api.OK {
				t.Fatalf("Real(%s, %s): %d", a, b, e)
			}
			out = append(out, s)
		}
	}
	return append(out, "0/1", "1/2", "-1/3")
}

func toRat(t *testing.T, s string) *big.Rat {
	t.Helper()
	r, ok := new(big.Rat).SetString(s)
	if !ok {
		t.Fatalf("%q is no fraction", s)
	}
	return r
}

// wantReal returns what a function returns for a result.
func wantReal(r *big.Rat) (string, api.Errno) {
	p, e := want(r.Num())
	q, f := want(r.Denom())
	if e != api.OK || f != api.OK {
		return "", api.ErrLarge
	}
	return p + "/" + q, api.OK
}

// TestCheckReal is for P1.2: the form of fractions, and the order of its errors.
func TestCheckReal(t *testing.T) {
	large := nines + "9"
	for s, want := range map[string]api.Errno{
		"0/1": api.OK, "1/1": api.OK, "-1/2": api.OK, "3/2": api.OK, nines + "/" + tenTo(119): api.OK,
		"": api.ErrForm, "1": api.ErrForm, "/": api.ErrForm, "1/": api.ErrForm, "/1": api.ErrForm, "1/2/3": api.ErrForm, "1//2": api.ErrForm,
		"0/2": api.ErrForm, "2/4": api.ErrForm, "1/-2": api.ErrForm, "-1/-2": api.ErrForm, "1/0": api.ErrForm, "0/0": api.ErrForm, "0/-1": api.ErrForm,
		"01/2": api.ErrForm, "1/02": api.ErrForm, "-0/1": api.ErrForm, " 1/2": api.ErrForm,
		large + "/x": api.ErrLarge, "x/" + large: api.ErrForm, "1/" + large: api.ErrLarge, large + "/2/3": api.ErrForm, large + "/0": api.ErrLarge,
	} {
		if e := CheckReal(s); e != want {
			t.Errorf("CheckReal(%q): %d, want %d", s, e, want)
		}
	}
}

// TestReal is for P1.2: lowest terms and signs.
func TestReal(t *testing.T) {
	for _, c := range []struct {
		p, q, want string
		e          api.Errno
	}{
		{"6", "-4", "-3/2", api.OK}, {"-6", "-4", "3/2", api.OK}, {"0", "-5", "0/1", api.OK}, {"5", "5", "1/1", api.OK}, {"-7", "1", "-7/1", api.OK},
		{"1", "0", "", api.ErrDivide}, {"0", "0", "", api.ErrDivide}, {"x", "0", "", api.ErrForm}, {nines, "-" + nines, "-1/1", api.OK},
	} {
		if s, e := Real(c.p, c.q); s != c.want || e != c.e {
			t.Errorf("Real(%s, %s): %q, %d", c.p, c.q, s, e)
		}
	}
}

// TestFractions is for P1.2: compared with math/big, with results around the limit.
func TestFractions(t *testing.T) {
	list := fractions(t)
	for _, a := range list {
		x := toRat(t, a)
		p, q, e := Parts(a)
		if p != x.Num().String() || q != x.Denom().String() || e != api.OK {
			t.Errorf("Parts(%s): %s, %s, %d", a, p, q, e)
		}
		floor, _ := new(big.Int).DivMod(x.Num(), x.Denom(), new(big.Int))
		if s, e := Floor(a); s != floor.String() || e != api.OK {
			t.Errorf("Floor(%s): %s, %d", a, s, e)
		}
		for _, b := range list {
			y := toRat(t, b)
			results := map[string]*big.Rat{"+": new(big.Rat).Add(x, y), "-": new(big.Rat).Sub(x, y), "*": new(big.Rat).Mul(x, y)}
			functions := map[string]func(a, b string) (string, api.Errno){"+": AddReal, "-": SubReal, "*": MulReal}
			if y.Sign() != 0 {
				results["/"], functions["/"] = new(big.Rat).Quo(x, y), DivReal
			} else if s, e := DivReal(a, b); s != "" || e != api.ErrDivide {
				t.Errorf("%s / %s: %q, %d", a, b, s, e)
			}
			for sign, f := range functions {
				s, e := f(a, b)
				if ws, we := wantReal(results[sign]); s != ws || e != we {
					t.Errorf("%s %s %s: %q, %d, want %q, %d", a, sign, b, s, e, ws, we)
				}
			}
			if c, e := CompareReal(a, b); c != x.Cmp(y) || e != api.OK {
				t.Errorf("CompareReal(%s, %s): %d, %d", a, b, c, e)
			}
		}
	}
}

// TestFromDecimal is for P1.2: literals, also long ones and wrong ones.
func TestFromDecimal(t *testing.T) {
	for _, c := range []struct {
		s, want string
		e       api.Errno
	}{
		{"0.0", "0/1", api.OK}, {"12.50", "25/2", api.OK}, {"007.5", "15/2", api.OK}, {"3.000", "3/1", api.OK}, {"0.001", "1/1000", api.OK},
		{"0." + strings.Repeat("9", 119), strings.Repeat("9", 119) + "/" + tenTo(119), api.OK},
		{strings.Repeat("0", 119) + ".1", "1/10", api.OK}, {strings.Repeat("9", 119) + ".0", strings.Repeat("9", 119) + "/1", api.OK},
		{strings.Repeat("0", 120) + ".1", "", api.ErrLarge}, {"0." + nines, "", api.ErrLarge}, {"0." + nines + "x", "", api.ErrForm},
		{"", "", api.ErrForm}, {".", "", api.ErrForm}, {"1", "", api.ErrForm}, {"1.", "", api.ErrForm}, {".1", "", api.ErrForm}, {"1.2.3", "", api.ErrForm},
		{"-1.5", "", api.ErrForm}, {"+1.5", "", api.ErrForm}, {"1.-5", "", api.ErrForm}, {"1,5", "", api.ErrForm}, {" 1.5", "", api.ErrForm}, {"1.5e1", "", api.ErrForm},
	} {
		if s, e := FromDecimal(c.s); s != c.want || e != c.e {
			t.Errorf("FromDecimal(%q): %q, %d, want %q, %d", c.s, s, e, c.want, c.e)
		}
	}
}

// TestFractionErrors is for P1.2: the first error of the arguments, then that of the result.
func TestFractionErrors(t *testing.T) {
	large := nines + "9/2"
	for _, f := range []func(a, b string) (string, api.Errno){AddReal, SubReal, MulReal, DivReal} {
		for _, c := range []struct {
			a, b string
			want api.Errno
		}{{"x", large, api.ErrForm}, {large, "x", api.ErrLarge}, {"2/4", "1/2", api.ErrForm}, {"1/2", "2/4", api.ErrForm}, {"1/2", large, api.ErrLarge}, {"1/2", "0/2", api.ErrForm}} {
			if s, e := f(c.a, c.b); s != "" || e != c.want {
				t.Errorf("(%.5s, %.5s): %q, %d, want %d", c.a, c.b, s, e, c.want)
			}
		}
	}
	if s, e := AddReal(nines+"/1", "1/1"); s != "" || e != api.ErrLarge {
		t.Errorf("AddReal: %q, %d", s, e)
	}
	if s, e := MulReal("1/"+nines, "1/7"); s != "" || e != api.ErrLarge {
		t.Errorf("MulReal: %q, %d", s, e)
	}
	if p, q, e := Parts("2/4"); p != "" || q != "" || e != api.ErrForm {
		t.Errorf("Parts: %q, %q, %d", p, q, e)
	}
	if s, e := Floor("3"); s != "" || e != api.ErrForm {
		t.Errorf("Floor: %q, %d", s, e)
	}
	if n, e := CompareReal("1/2", "3"); n != 0 || e != api.ErrForm {
		t.Errorf("CompareReal: %d, %d", n, e)
	}
}
