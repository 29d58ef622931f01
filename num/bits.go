package num

import (
	"strconv"

	"entail/api"
)

// The operations on bit vectors.
const (
	BitAdd = iota
	BitSub
	BitMul
	BitDiv
	BitMod
	BitAnd
	BitOr
	BitXor
	BitShl
	BitShr
	BitOps
)

// maxWidth is the greatest width of a bit vector.
const maxWidth = 64

// bitOperation is an operation on bit vectors; its result is taken modulo 2^width afterwards.
type bitOperation struct {
	divides bool
	apply   func(a, b uint64) uint64
}

// bitOperations returns the operations by their numbers. Go's shifts by 64 and more are 0, as they are here.
func bitOperations() [BitOps]bitOperation {
	return [BitOps]bitOperation{
		BitAdd: {false, func(a, b uint64) uint64 { return a + b }},
		BitSub: {false, func(a, b uint64) uint64 { return a - b }},
		BitMul: {false, func(a, b uint64) uint64 { return a * b }},
		BitDiv: {true, func(a, b uint64) uint64 { return a / b }},
		BitMod: {true, func(a, b uint64) uint64 { return a % b }},
		BitAnd: {false, func(a, b uint64) uint64 { return a & b }},
		BitOr:  {false, func(a, b uint64) uint64 { return a | b }},
		BitXor: {false, func(a, b uint64) uint64 { return a ^ b }},
		BitShl: {false, func(a, b uint64) uint64 { return a << b }},
		BitShr: {false, func(a, b uint64) uint64 { return a >> b }},
	}
}

// Wrap returns an integer modulo a power of two.
func Wrap(s string, width int) (string, api.Errno) {
	if e := Check(s); e != api.OK {
		return "", e
	}
	if width < 1 || width > maxWidth {
		return "", api.ErrRange
	}
	a := readSigned(s)
	word := a.word()
	if a.negative {
		word = -word
	}
	return strconv.FormatUint(word&mask(width), 10), api.OK
}

// Bits returns the result of an operation on bit vectors.
func Bits(op, width int, a, b string) (string, api.Errno) {
	switch {
	case op < 0 || op >= BitOps:
		return "", api.ErrUnknown
	case width < 1 || width > maxWidth:
		return "", api.ErrRange
	}
	check := func(s string) api.Errno { return checkVector(s, width) }
	if e := checkAll(check, a, b); e != api.OK {
		return "", e
	}
	operation, x, y := bitOperations()[op], readSigned(a).word(), readSigned(b).word()
	if operation.divides && y == 0 {
		return "", api.ErrDivide
	}
	return strconv.FormatUint(operation.apply(x, y)&mask(width), 10), api.OK
}

// checkVector returns the error of a bit vector of a width that exists.
func checkVector(s string, width int) api.Errno {
	if e := Check(s); e != api.OK {
		return e
	}
	a := readSigned(s)
	if a.negative || a.compare(ofWord(mask(width))) > 0 {
		return api.ErrRange
	}
	return api.OK
}

// mask returns the greatest bit vector of a width.
func mask(width int) uint64 {
	word := uint64(0)
	for range width {
		word = word<<1 | 1
	}
	return word
}
