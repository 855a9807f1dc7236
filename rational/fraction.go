package rational

import (
	"math"
	"math/bits"

	"narrows/api"
	"narrows/bigint"
)

// sumBits is the number of bits of the greatest machine integer: the sum of two integers that have fewer bits is one.
const sumBits = 63

// fraction is a small number: its numerator and its denominator, which is at least 1, are machine integers.
type fraction struct{ num, den int }

// fractionOf returns a fraction with the value of r. If there is none, it returns one with which nothing fits.
func fractionOf(r api.Rat) fraction {
	num, above := bigint.Small(api.Int{Neg: r.Neg, Mag: r.Num})
	den, below := bigint.Small(api.Int{Mag: r.Den})
	if !above || !below {
		return fraction{den: math.MaxInt}
	}
	return fraction{num, max(den, 1)}
}

// fits returns whether x * y is certain to be a machine integer, and so is the sum of two such products.
func fits(x, y int) bool {
	return bits.Len64(size(x))+bits.Len64(size(y)) < sumBits
}

// number returns the canonical number with the value of the fraction.
func (x fraction) number() api.Rat {
	num, den := size(x.num), size(x.den)
	common := gcd(num, den)
	r := api.Rat{Neg: x.num < 0, Num: digits(num / common)}
	if den != common {
		r.Den = digits(den / common)
	}
	return r
}

// size returns the absolute value of n, also of the least int, which has no opposite.
func size(n int) uint64 {
	if n < 0 {
		return -uint64(n)
	}
	return uint64(n)
}

// gcd returns the greatest common divisor of x and y.
func gcd(x, y uint64) uint64 {
	for y != 0 {
		x, y = y, x%y
	}
	return x
}

// digits returns the base-256 digits of w, without leading zeros.
func digits(w uint64) string {
	var array [8]byte
	first := len(array)
	for ; w > 0; w >>= 8 {
		first--
		array[first] = byte(w)
	}
	return string(array[first:])
}
