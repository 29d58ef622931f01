package num

// divide returns the quotient and the remainder; n is not zero.
func (m magnitude) divide(n magnitude) (magnitude, magnitude) {
	switch {
	case m.compare(n) < 0:
		return magnitude{}, m
	case n.used == 1:
		quotient, rest := m.divideLimb(n.limbs[0])
		return quotient, ofWord(rest)
	}
	return m.divideLong(n)
}

// divideLimb returns the quotient and the remainder for a divisor of one limb.
func (m magnitude) divideLimb(limb uint32) (magnitude, uint64) {
	rest := uint64(0)
	for i := m.used - 1; i >= 0; i-- {
		rest = rest*base + uint64(m.limbs[i])
		m.limbs[i], rest = uint32(rest/uint64(limb)), rest%uint64(limb)
	}
	return m.trimmed(), rest
}

// divideLong divides digit by digit. Both numbers are scaled first, so that the divisor's top limb is at least half the base: then an estimated digit of the quotient is at most one too large.
func (m magnitude) divideLong(n magnitude) (magnitude, magnitude) {
	scale := base / (n.limbs[n.used-1] + 1)
	rest, divisor := m.times(ofWord(uint64(scale))), n.times(ofWord(uint64(scale)))
	var quotient magnitude
	quotient.used = m.used - n.used + 1
	for at := quotient.used - 1; at >= 0; at-- {
		digit := estimate(&rest.limbs, divisor, at)
		if digit > 0 && subtract(&rest.limbs, divisor, digit, at) {
			digit--
			restore(&rest.limbs, divisor, at)
		}
		quotient.limbs[at] = uint32(digit)
	}
	var remainder magnitude
	remainder.used = copy(remainder.limbs[:], rest.limbs[:n.used])
	remainder, _ = remainder.trimmed().divideLimb(scale)
	return quotient.trimmed(), remainder
}

// estimate returns the digit of the quotient at a place, or one more.
func estimate(rest *limbs, divisor magnitude, at int) uint64 {
	top := at + divisor.used
	first, second := uint64(divisor.limbs[divisor.used-1]), uint64(divisor.limbs[divisor.used-2])
	high := uint64(rest[top])*base + uint64(rest[top-1])
	digit, left := high/first, high%first
search:
	for left < base {
		switch {
		case digit >= base, digit*second > left*base+uint64(rest[top-2]):
			digit--
			left += first
		default:
			break search
		}
	}
	return digit
}

// subtract takes the divisor, times a digit, from the rest at a place, and reports whether the rest was too small; then its top limb is the base too large.
func subtract(rest *limbs, divisor magnitude, digit uint64, at int) bool {
	carry := uint64(0)
	for i := range divisor.used {
		product := digit*uint64(divisor.limbs[i]) + carry
		carry = product / base
		low := uint32(product % base)
		if rest[at+i] < low {
			rest[at+i] += base
			carry++
		}
		rest[at+i] -= low
	}
	top := uint64(rest[at+divisor.used]) + base - carry
	rest[at+divisor.used] = uint32(top % base)
	return top < base
}

// restore adds the divisor to the rest at a place again.
func restore(rest *limbs, divisor magnitude, at int) {
	carry := uint32(0)
	for i := range divisor.used {
		sum := rest[at+i] + divisor.limbs[i] + carry
		rest[at+i], carry = sum%base, sum/base
	}
	rest[at+divisor.used] = (rest[at+divisor.used] + carry) % base
}
