package num

import "iter"

const (
	base      = 1_000_000_000 // of the limbs
	limbWidth = 9             // decimal digits of a limb
	// Sums of two products of numbers within the limit have 241 digits, and a division scales its operands by less than one limb more.
	room = 30
)

// limbs are the digits of a magnitude to the base, the lowest first.
type limbs [room]uint32

// magnitude is a natural number; the limbs that are not used are zero, so that equal numbers have equal limbs.
type magnitude struct {
	limbs limbs
	used  int
}

// readMagnitude returns the number that some decimal digits denote, also with leading zeros.
func readMagnitude(digits string) magnitude {
	var m magnitude
	for end := len(digits); end > 0; end -= limbWidth {
		m.limbs[m.used] = readLimb(digits[max(end-limbWidth, 0):end])
		m.used++
	}
	return m.trimmed()
}

// readLimb returns the number that at most nine digits denote.
func readLimb(digits string) uint32 {
	limb := uint32(0)
	for _, c := range digits {
		limb = limb*10 + uint32(c-'0')
	}
	return limb
}

// trimmed returns the number without the zero limbs at its top.
func (m magnitude) trimmed() magnitude {
	for m.used > 0 && m.limbs[m.used-1] == 0 {
		m.used--
	}
	return m
}

func (m magnitude) isZero() bool {
	return m.used == 0
}

// isSmall reports whether the number is below 10^18, so that it fits into 64 bits.
func (m magnitude) isSmall() bool {
	return m.used <= 2
}

// word returns the number modulo 2^64.
func (m magnitude) word() uint64 {
	word := uint64(0)
	for i := m.used - 1; i >= 0; i-- {
		word = word*base + uint64(m.limbs[i])
	}
	return word
}

// ofWord returns the magnitude of a number of 64 bits.
func ofWord(word uint64) magnitude {
	var m magnitude
	for ; word > 0; word /= base {
		m.limbs[m.used] = uint32(word % base)
		m.used++
	}
	return m
}

// digits yields the decimal digits from the highest one on; zero has one.
func (m magnitude) digits() iter.Seq[byte] {
	return func(yield func(byte) bool) {
		if m.isZero() {
			yield('0')
			return
		}
		begun := false
		for i := m.used - 1; i >= 0; i-- {
			for place := uint32(base / 10); place > 0; place /= 10 {
				digit := m.limbs[i] / place % 10
				begun = begun || digit != 0
				if begun && !yield('0'+byte(digit)) {
					return
				}
			}
		}
	}
}

// size returns the number of decimal digits; that of zero is 1.
func (m magnitude) size() int {
	if m.isZero() {
		return 1
	}
	size := (m.used - 1) * limbWidth
	for top := m.limbs[m.used-1]; top > 0; top /= 10 {
		size++
	}
	return size
}

// compare returns -1, 0 or 1.
func (m magnitude) compare(n magnitude) int {
	if m.limbs == n.limbs {
		return 0
	}
	at := max(m.used, n.used) - 1
	for m.limbs[at] == n.limbs[at] {
		at--
	}
	if m.limbs[at] < n.limbs[at] {
		return -1
	}
	return 1
}

// plus returns the sum.
func (m magnitude) plus(n magnitude) magnitude {
	m.used = max(m.used, n.used) + 1
	carry := uint32(0)
	for i := range m.used {
		sum := m.limbs[i] + n.limbs[i] + carry
		m.limbs[i], carry = sum%base, sum/base
	}
	return m.trimmed()
}

// minus returns the difference; n is at most m.
func (m magnitude) minus(n magnitude) magnitude {
	borrow := uint32(0)
	for i := range m.used {
		limb := m.limbs[i] + base - n.limbs[i] - borrow
		m.limbs[i], borrow = limb%base, 1-limb/base
	}
	return m.trimmed()
}

// times returns the product of two numbers that have together at most as many limbs as there is room for.
func (m magnitude) times(n magnitude) magnitude {
	var out magnitude
	for i := range m.used {
		carry := uint64(0)
		for j := range n.used {
			sum := uint64(m.limbs[i])*uint64(n.limbs[j]) + uint64(out.limbs[i+j]) + carry
			out.limbs[i+j], carry = uint32(sum%base), sum/base
		}
		out.limbs[i+n.used] = uint32(carry)
	}
	out.used = m.used + n.used
	return out.trimmed()
}

// gcd returns the greatest common divisor; that of 0 and 0 is 0.
func (m magnitude) gcd(n magnitude) magnitude {
	for !n.isZero() {
		if m.isSmall() && n.isSmall() {
			return ofWord(wordGcd(m.word(), n.word()))
		}
		_, rest := m.divide(n)
		m, n = n, rest
	}
	return m
}

func wordGcd(a, b uint64) uint64 {
	for b > 0 {
		a, b = b, a%b
	}
	return a
}
