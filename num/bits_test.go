package num

import (
	"math/big"
	"math/rand"
	"strconv"
	"testing"

	"entail/api"
)

// TestWrap is for P1.3: all widths, compared with math/big.
func TestWrap(t *testing.T) {
	for _, a := range samples() {
		for width := 1; width <= 64; width++ {
			want := new(big.Int).Mod(toBig(t, a), new(big.Int).Lsh(big.NewInt(1), uint(width)))
			if s, e := Wrap(a, width); s != want.String() || e != api.OK {
				t.Errorf("Wrap(%s, %d): %s, %d, want %s", a, width, s, e, want)
			}
		}
	}
	for _, c := range []struct {
		s     string
		width int
		want  api.Errno
	}{{"1", 0, api.ErrRange}, {"1", 65, api.ErrRange}, {"1", -1, api.ErrRange}, {"x", 0, api.ErrForm}, {nines + "9", 8, api.ErrLarge}} {
		if s, e := Wrap(c.s, c.width); s != "" || e != c.want {
			t.Errorf("Wrap(%.5s, %d): %q, %d, want %d", c.s, c.width, s, e, c.want)
		}
	}
}

// byDefinition returns the result of an operation as the document defines it on integers.
func byDefinition(op, width int, a, b *big.Int) *big.Int {
	out, two := new(big.Int), new(big.Int).Lsh(big.NewInt(1), uint(width))
	switch op {
	case BitAdd:
		out.Add(a, b)
	case BitSub:
		out.Sub(a, b)
	case BitMul:
		out.Mul(a, b)
	case BitDiv:
		out.Div(a, b)
	case BitMod:
		out.Mod(a, b)
	case BitAnd:
		out.And(a, b)
	case BitOr:
		out.Or(a, b)
	case BitXor:
		out.Xor(a, b)
	case BitShl, BitShr:
		if b.Cmp(big.NewInt(int64(width))) >= 0 {
			return out
		}
		if op == BitShl {
			out.Lsh(a, uint(b.Uint64()))
		} else {
			out.Rsh(a, uint(b.Uint64()))
		}
	}
	return out.Mod(out, two)
}

// TestBits is for P1.3: all operations and widths, compared with their definitions.
func TestBits(t *testing.T) {
	r := rand.New(rand.NewSource(3))
	for width := 1; width <= 64; width++ {
		greatest := mask(width)
		list := []uint64{0, 1, greatest, greatest / 2, greatest/2 + 1, uint64(width) & greatest, uint64(width-1) & greatest, r.Uint64() & greatest, r.Uint64() & greatest}
		for _, x := range list {
			for _, y := range list {
				a, b := strconv.FormatUint(x, 10), strconv.FormatUint(y, 10)
				for op := range BitOps {
					s, e := Bits(op, width, a, b)
					if y == 0 && (op == BitDiv || op == BitMod) {
						if s != "" || e != api.ErrDivide {
							t.Errorf("Bits(%d, %d, %s, %s): %q, %d", op, width, a, b, s, e)
						}
						continue
					}
					want := byDefinition(op, width, toBig(t, a), toBig(t, b)).String()
					if s != want || e != api.OK {
						t.Errorf("Bits(%d, %d, %s, %s): %q, %d, want %s", op, width, a, b, s, e, want)
					}
				}
			}
		}
	}
}

// TestBitsErrors is for P1.3: the errors in their order.
func TestBitsErrors(t *testing.T) {
	large := nines + "9"
	for _, c := range []struct {
		op, width int
		a, b      string
		want      api.Errno
	}{
		{-1, 0, "x", "x", api.ErrUnknown}, {BitOps, 8, "1", "1", api.ErrUnknown}, {BitAdd, 0, "x", "x", api.ErrRange}, {BitAdd, 65, "0", "0", api.ErrRange}, {BitAdd, -8, "0", "0", api.ErrRange},
		{BitAdd, 8, "x", large, api.ErrForm}, {BitAdd, 8, large, "x", api.ErrLarge}, {BitAdd, 8, "256", "x", api.ErrRange}, {BitAdd, 8, "-1", "x", api.ErrRange},
		{BitAdd, 8, "255", "x", api.ErrForm}, {BitAdd, 8, "255", "256", api.ErrRange}, {BitDiv, 8, "1", "-1", api.ErrRange}, {BitDiv, 8, "1", "0", api.ErrDivide}, {BitMod, 8, "1", "0", api.ErrDivide},
		{BitMod, 8, "256", "0", api.ErrRange}, {BitAdd, 64, "18446744073709551616", "0", api.ErrRange}, {BitAdd, 64, "0", nines, api.ErrRange}, {BitShl, 1, "1", "2", api.ErrRange},
	} {
		if s, e := Bits(c.op, c.width, c.a, c.b); s != "" || e != c.want {
			t.Errorf("Bits(%d, %d, %.5s, %.5s): %q, %d, want %d", c.op, c.width, c.a, c.b, s, e, c.want)
		}
	}
}

// TestBitsLaws compares the operations of the width 64 with Go's, and those of all widths with operations on integers. (P1.4)
func TestBitsLaws(t *testing.T) {
	r := rand.New(rand.NewSource(4))
	text := func(n uint64) string { return strconv.FormatUint(n, 10) }
	for range 500 {
		x, y := r.Uint64(), r.Uint64()>>r.Intn(64)|1
		for op, want := range []uint64{x + y, x - y, x * y, x / y, x % y, x & y, x | y, x ^ y, x << y, x >> y} {
			if s, e := Bits(op, 64, text(x), text(y)); s != text(want) || e != api.OK {
				t.Errorf("Bits(%d, 64, %d, %d): %s, %d, want %d", op, x, y, s, e, want)
			}
		}
		width := 1 + r.Intn(64)
		a, b := text(x&mask(width)), text(y&mask(width))
		for op, f := range []func(a, b string) (string, api.Errno){Add, Sub, Mul} {
			n, _ := f(a, b)
			want, _ := Wrap(n, width)
			if s, e := Bits(op, width, a, b); s != want || e != api.OK {
				t.Errorf("Bits(%d, %d, %s, %s): %s, %d, want %s", op, width, a, b, s, e, want)
			}
		}
	}
}
