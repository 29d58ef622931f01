package num

import "strings"

// signed is an integer; zero is not negative.
type signed struct {
	magnitude
	negative bool
}

// readSigned returns the integer that a string denotes; its form has been checked.
func readSigned(s string) signed {
	return withSign(strings.HasPrefix(s, "-"), readMagnitude(strings.TrimPrefix(s, "-")))
}

// withSign returns the integer with this sign and magnitude.
func withSign(negative bool, m magnitude) signed {
	return signed{magnitude: m, negative: negative && !m.isZero()}
}

// writer collects the digits of a number.
type writer struct {
	bytes []byte
}

func (w *writer) digit(c byte) {
	w.bytes = append(w.bytes, c)
}

// text returns the decimal string.
func (a signed) text() string {
	w := writer{bytes: make([]byte, 0, a.size()+1)}
	put := w.digit
	if a.negative {
		put('-')
	}
	for c := range a.digits() {
		put(c)
	}
	return string(w.bytes)
}

func (a signed) negated() signed {
	return withSign(!a.negative, a.magnitude)
}

// plus returns the sum.
func (a signed) plus(b signed) signed {
	if a.negative == b.negative {
		return withSign(a.negative, a.magnitude.plus(b.magnitude))
	}
	if a.compare(b.magnitude) < 0 {
		a, b = b, a
	}
	return withSign(a.negative, a.minus(b.magnitude))
}

// by returns the product.
func (a signed) by(b signed) signed {
	return withSign(a.negative != b.negative, a.times(b.magnitude))
}

// divMod returns the quotient and the remainder, which is not negative; b is not zero.
func (a signed) divMod(b signed) (signed, signed) {
	quotient, rest := a.divide(b.magnitude)
	if a.negative && !rest.isZero() {
		quotient, rest = quotient.plus(ofWord(1)), b.minus(rest)
	}
	return withSign(a.negative != b.negative, quotient), withSign(false, rest)
}

// order returns -1, 0 or 1.
func (a signed) order(b signed) int {
	compare := magnitude.compare
	switch {
	case a.negative && b.negative:
		return compare(b.magnitude, a.magnitude)
	case a.negative:
		return -1
	case b.negative:
		return 1
	}
	return compare(a.magnitude, b.magnitude)
}
