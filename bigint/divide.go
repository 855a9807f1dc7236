package bigint

import (
	"math"
	"math/bits"
	"slices"
)

// divide returns the quotient of x and y, rounded down, and the remainder; y is not 0.
func divide(x, y natural) (natural, natural) {
	switch {
	case compare(x, y) < 0:
		return nil, x
	case len(y) == 1:
		quotient := slices.Clone(x)
		rest := divideWord(quotient, y[0])
		return trim(quotient), trim(natural{rest})
	}
	return longDivide(x, y)
}

// divideWord divides the digits of x by a divisor in place, and returns the remainder.
func divideWord(x natural, divisor uint64) uint64 {
	rest := uint64(0)
	for i, digit := range slices.Backward(x) {
		x[i], rest = bits.Div64(rest, digit, divisor)
	}
	return rest
}

// longDivide divides x by y, which has at least two digits and is not greater.
// Both are shifted first, because the first digit of a divisor whose highest bit is set tells the digits of the quotient almost exactly.
func longDivide(x, y natural) (natural, natural) {
	shift := bits.LeadingZeros64(y[len(y)-1])
	rest, divisor := shiftLeft(x, shift), trim(shiftLeft(y, shift))
	quotient := make(natural, len(x)-len(y)+1)
	for i := range slices.Backward(quotient) {
		quotient[i] = quotientDigit(rest[i:i+len(y)+1], divisor)
	}
	return trim(quotient), shiftRight(trim(rest), shift)
}

// quotientDigit returns the quotient of rest, which has one digit more than the divisor, if it is a single digit; the remainder is left in rest.
func quotientDigit(rest, divisor natural) uint64 {
	n := len(divisor)
	digit := uint64(math.MaxUint64)
	if rest[n] < divisor[n-1] {
		digit, _ = bits.Div64(rest[n], rest[n-1], divisor[n-1])
	}
	rest[n] -= subProduct(rest[:n], divisor, digit)
	// The digit is never too small, and at most 2 too great; then the rest is negative, and its highest digit not 0.
	for rest[n] != 0 {
		digit--
		rest[n] += addProduct(rest[:n], divisor, 1)
	}
	return digit
}
