package radical

import (
	"strings"

	"narrows/api"
	"narrows/bigint"
	"narrows/rational"
)

// firstBits is the precision that decides the signs of most sums.
const firstBits = 16

// integral is a sum in units of the inverse of an integer, in which all its Coefs are integers.
type integral struct {
	coefs, roots []api.Int
	unit         api.Int
}

// integralOf returns a normal form with its Coefs as integers.
func integralOf(s api.Sum) integral {
	x := integral{unit: bigint.Of(1)}
	for _, t := range s {
		_, den := rational.Parts(t.Coef)
		more, _, _ := bigint.Div(den, bigint.Gcd(x.unit, den))
		x.unit = bigint.Mul(x.unit, more)
	}
	for _, t := range s {
		num, den := rational.Parts(t.Coef)
		factor, _, _ := bigint.Div(x.unit, den)
		x.coefs = append(x.coefs, bigint.Mul(num, factor))
		x.roots = append(x.roots, t.Root)
	}
	return x
}

// bounds returns the bounds of the sum for a number of bits, multiplied by the unit and by 2^bits.
func (x integral) bounds(bits int) (api.Int, api.Int) {
	var lower, upper api.Int
	square := power(2 * bits)
	for i, coef := range x.coefs {
		k, exact, _ := bigint.Root(bigint.Mul(x.roots[i], square))
		low := bigint.Mul(coef, k)
		high := low
		if !exact {
			high = bigint.Add(low, coef)
		}
		if coef.Neg {
			low, high = high, low
		}
		lower, upper = bigint.Add(lower, low), bigint.Add(upper, high)
	}
	return lower, upper
}

// sign returns the sign of a normal form. Without terms its bounds are 0. Otherwise its value is not 0, because roots of different classes are independent; so at some precision both bounds have its sign.
func sign(s api.Sum) int {
	x, result := integralOf(s), 0
	refine(func(bits int) bool {
		lower, upper := x.bounds(bits)
		result = bigint.Compare(lower, api.Int{})
		return result == bigint.Compare(upper, api.Int{})
	})
	return result
}

// refine doubles the number of bits until a condition is true.
func refine(condition func(bits int) bool) {
	for bits := firstBits; !condition(bits); bits *= 2 {
	}
}

// power returns 2^n.
func power(n int) api.Int {
	return api.Int{Mag: string([]byte{1 << (n % 8)}) + strings.Repeat("\x00", n/8)}
}
