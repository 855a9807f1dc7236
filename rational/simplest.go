package rational

import (
	"narrows/api"
	"narrows/bigint"
)

// Simplest returns the simplest number of the interval from a to b.
func Simplest(a, b api.Rat) (api.Rat, api.Errno) {
	switch {
	case Compare(a, b) > 0:
		return api.Rat{}, api.ErrOrder
	case Sign(a) > 0:
		return between(quotientOf(a), quotientOf(b)).number(), api.OK
	case Sign(b) < 0:
		return Neg(between(quotientOf(opposite(b)), quotientOf(opposite(a))).number()), api.OK
	}
	return api.Rat{}, api.OK
}

// between returns the simplest number from a to b, where a is positive and not greater than b.
// If there are integers from a to b, it is the least one. Otherwise both have the same floor, and it is floor + 1 / x, where x is the simplest number from 1 / (b - floor) to 1 / (a - floor). So it is a continued fraction with the terms that those of a and b have in common, and one more.
func between(a, b quotient) quotient {
	zero, unit := bigint.Of(0), bigint.Of(1)
	// The two last values of the continued fraction; it begins with 0 / 1 and 1 / 0, from which the first term makes term / 1.
	earlier, value := quotient{zero, unit}, quotient{unit, zero}
	for {
		term, rest, _ := bigint.Div(a.num, a.den)
		greater, more, _ := bigint.Div(b.num, b.den)
		switch {
		case rest == zero:
			return value.continued(term, earlier)
		case term != greater:
			return value.continued(bigint.Add(term, unit), earlier)
		}
		earlier, value = value, value.continued(term, earlier)
		a, b = quotient{b.den, more}, quotient{a.den, rest}
	}
}

// continued returns the value of a continued fraction with a further term; x is its value before, and earlier the one without its last term.
func (x quotient) continued(term api.Int, earlier quotient) quotient {
	return quotient{bigint.Add(bigint.Mul(term, x.num), earlier.num), bigint.Add(bigint.Mul(term, x.den), earlier.den)}
}
