package num

import (
	"strings"

	"entail/api"
	"entail/common"
)

// fraction is a numerator above a positive denominator, in lowest terms: equal fractions are equal structs.
type fraction struct {
	top, bottom signed
}

// CheckReal returns the first error of a fraction, or OK.
func CheckReal(s string) api.Errno {
	if strings.Count(s, "/") != 1 {
		return api.ErrForm
	}
	if e := checkAll(Check, strings.Split(s, "/")...); e != api.OK {
		return e
	}
	a := readFraction(s)
	if a.bottom.isZero() || a.bottom.negative || !isOne(a.top.gcd(a.bottom.magnitude)) {
		return api.ErrForm
	}
	return api.OK
}

// Real returns the fraction of two integers in lowest terms.
func Real(p, q string) (string, api.Errno) {
	if e := checkAll(Check, p, q); e != api.OK {
		return "", e
	}
	bottom := readSigned(q)
	if bottom.isZero() {
		return "", api.ErrDivide
	}
	return finishReal(lowest(readSigned(p), bottom))
}

// Parts returns the numerator and the denominator of a fraction.
func Parts(s string) (string, string, api.Errno) {
	if e := CheckReal(s); e != api.OK {
		return "", "", e
	}
	p, q, _ := strings.Cut(s, "/")
	return p, q, api.OK
}

// FromDecimal returns the fraction of a literal with a decimal point.
func FromDecimal(s string) (string, api.Errno) {
	whole, decimals, _ := strings.Cut(s, ".")
	switch {
	case !allDigits(whole) || !allDigits(decimals):
		return "", api.ErrForm
	case len(whole)+len(decimals) > api.MaxDigits:
		return "", api.ErrLarge
	}
	top := signed{magnitude: readMagnitude(whole + decimals)}
	return finishReal(lowest(top, readSigned("1"+strings.Repeat("0", len(decimals)))))
}

// AddReal returns the sum of two fractions.
func AddReal(a, b string) (string, api.Errno) {
	return calculate('+', a, b)
}

// SubReal returns the difference of two fractions.
func SubReal(a, b string) (string, api.Errno) {
	return calculate('-', a, b)
}

// MulReal returns the product of two fractions.
func MulReal(a, b string) (string, api.Errno) {
	return calculate('*', a, b)
}

// DivReal returns the quotient of two fractions.
func DivReal(a, b string) (string, api.Errno) {
	return calculate('/', a, b)
}

// CompareReal returns -1, 0 or 1 for two fractions.
func CompareReal(a, b string) (int, api.Errno) {
	if e := checkAll(CheckReal, a, b); e != api.OK {
		return 0, e
	}
	x, y := readFraction(a), readFraction(b)
	if x == y {
		return 0, api.OK
	}
	return x.top.by(y.bottom).order(y.top.by(x.bottom)), api.OK
}

// Floor returns the greatest integer that is not above a fraction.
func Floor(s string) (string, api.Errno) {
	if e := CheckReal(s); e != api.OK {
		return "", e
	}
	a := readFraction(s)
	quotient, _ := a.top.divMod(a.bottom)
	return finish(quotient)
}

// calculate returns the result of an operation on two fractions.
func calculate(sign byte, a, b string) (string, api.Errno) {
	if e := checkAll(CheckReal, a, b); e != api.OK {
		return "", e
	}
	x, y := readFraction(a), readFraction(b)
	if sign == '/' && y.top.isZero() {
		return "", api.ErrDivide
	}
	operations := map[byte]func(fraction, fraction) fraction{
		'+': fraction.plus,
		'-': fraction.minus,
		'*': fraction.times,
		'/': fraction.over,
	}
	return finishReal(operations[sign](x, y))
}

// readFraction returns the fraction that a string with one slash denotes.
func readFraction(s string) fraction {
	parts := common.Transform(strings.Split(s, "/"), readSigned)
	return fraction{top: parts[0], bottom: parts[1]}
}

// lowest returns the fraction of two integers; the second one is not zero.
func lowest(top, bottom signed) fraction {
	divisor := top.gcd(bottom.magnitude)
	reduced := common.Transform([]magnitude{top.magnitude, bottom.magnitude}, func(m magnitude) magnitude {
		if isOne(divisor) {
			return m
		}
		quotient, _ := m.divide(divisor)
		return quotient
	})
	return fraction{top: withSign(top.negative != bottom.negative, reduced[0]), bottom: withSign(false, reduced[1])}
}

func isOne(m magnitude) bool {
	return m.used == 1 && m.limbs[0] == 1
}

// finishReal returns the string of a fraction whose parts are within the limit.
func finishReal(a fraction) (string, api.Errno) {
	p, q, e := finishPair(a.top, a.bottom)
	if e != api.OK {
		return "", e
	}
	return p + "/" + q, api.OK
}

func (a fraction) plus(b fraction) fraction {
	return lowest(a.top.by(b.bottom).plus(b.top.by(a.bottom)), a.bottom.by(b.bottom))
}

func (a fraction) minus(b fraction) fraction {
	return a.plus(fraction{top: b.top.negated(), bottom: b.bottom})
}

func (a fraction) times(b fraction) fraction {
	return lowest(a.top.by(b.top), a.bottom.by(b.bottom))
}

// over returns the quotient; b is not zero.
func (a fraction) over(b fraction) fraction {
	return lowest(a.top.by(b.bottom), a.bottom.by(b.top))
}
