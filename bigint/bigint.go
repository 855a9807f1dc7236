// Package bigint is layer 1: see shared/doc/01-bigint.md.
package bigint

import (
	"cmp"
	"math/bits"
	"strings"

	"narrows/api"
)

// Of returns the integer with the value n.
func Of(n int) api.Int {
	if n < 0 {
		// Negating after the conversion is right for the least int, too, which has no opposite.
		return signed(true, natural{-uint64(n)})
	}
	return signed(false, natural{uint64(n)})
}

// Check returns whether a is canonical.
func Check(a api.Int) api.Errno {
	if a != canonical(a) {
		return api.ErrArgument
	}
	return api.OK
}

// Small returns the value of a, and whether it is an int.
func Small(a api.Int) (int, bool) {
	mag := significant(a.Mag)
	if len(mag) > wordBytes {
		return 0, false
	}
	switch w := word(mag); {
	case a.Neg && w <= 1<<63:
		return int(-w), true
	case !a.Neg && w < 1<<63:
		return int(w), true
	}
	return 0, false
}

// Neg returns -a.
func Neg(a api.Int) api.Int {
	return canonical(opposite(a))
}

// Add returns a + b.
func Add(a, b api.Int) api.Int {
	var left, right space
	x, y := load(&left, a.Mag), load(&right, b.Mag)
	switch {
	case a.Neg == b.Neg:
		return signed(a.Neg, sum(x, y))
	case compare(x, y) < 0:
		return signed(b.Neg, difference(y, x))
	}
	return signed(a.Neg, difference(x, y))
}

// Sub returns a - b.
func Sub(a, b api.Int) api.Int {
	return Add(a, opposite(b))
}

// Mul returns a * b.
func Mul(a, b api.Int) api.Int {
	var left, right space
	x, y := load(&left, a.Mag), load(&right, b.Mag)
	return signed(a.Neg != b.Neg, product(x, y))
}

// Div returns the quotient of a and b, rounded down, and the remainder.
func Div(a, b api.Int) (api.Int, api.Int, api.Errno) {
	var left, right space
	x, y := load(&left, a.Mag), load(&right, b.Mag)
	if len(y) == 0 {
		return api.Int{}, api.Int{}, api.ErrDivide
	}
	quotient, rest := divide(x, y)
	if a.Neg != b.Neg && len(rest) > 0 {
		quotient, rest = sum(quotient, natural{1}), difference(y, rest)
	}
	return signed(a.Neg != b.Neg, quotient), signed(b.Neg, rest), api.OK
}

// Compare returns -1, 0 or 1 if a is less than, equal to or greater than b.
func Compare(a, b api.Int) int {
	a, b = canonical(a), canonical(b)
	switch {
	case a.Neg && b.Neg:
		return compareMagnitudes(b.Mag, a.Mag)
	case a.Neg:
		return -1
	case b.Neg:
		return 1
	}
	return compareMagnitudes(a.Mag, b.Mag)
}

// Gcd returns the greatest common divisor, which is never negative.
func Gcd(a, b api.Int) api.Int {
	var left, right space
	return signed(false, gcd(load(&left, a.Mag), load(&right, b.Mag)))
}

// Root returns the square root, rounded down, and whether it is exact.
func Root(a api.Int) (api.Int, bool, api.Errno) {
	x := load(new(space), a.Mag)
	if a.Neg && len(x) > 0 {
		return api.Int{}, false, api.ErrRange
	}
	r := root(x)
	return signed(false, r), compare(product(r, r), x) == 0, api.OK
}

// Bits returns the length of the absolute value in bits.
func Bits(a api.Int) int {
	mag := significant(a.Mag)
	if mag == "" {
		return 0
	}
	return 8*(len(mag)-1) + bits.Len8(mag[0])
}

// signed returns the integer with an absolute value and a sign, which zero has not.
func signed(negative bool, x natural) api.Int {
	return api.Int{Neg: negative && len(x) > 0, Mag: store(x)}
}

// canonical returns the canonical integer with the value of a.
func canonical(a api.Int) api.Int {
	mag := significant(a.Mag)
	return api.Int{Neg: a.Neg && mag != "", Mag: mag}
}

// opposite returns an integer with the value -a, which is not always canonical.
func opposite(a api.Int) api.Int {
	return api.Int{Neg: !a.Neg, Mag: a.Mag}
}

// significant returns base-256 digits without leading zeros.
func significant(mag string) string {
	return strings.TrimLeft(mag, "\x00")
}

// compareMagnitudes compares the numbers with base-256 digits that do not begin with a zero.
func compareMagnitudes(x, y string) int {
	if len(x) != len(y) {
		return cmp.Compare(len(x), len(y))
	}
	return strings.Compare(x, y)
}
