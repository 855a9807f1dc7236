package rational

import (
	"strings"

	"narrows/api"
	"narrows/bigint"
)

// one is the base-256 digit of 1.
const one = "\x01"

// quotient is a number of any size: its numerator and its denominator, which is at least 1, are integers of layer 1.
type quotient struct{ num, den api.Int }

// quotientOf returns a quotient with the value of r.
func quotientOf(r api.Rat) quotient {
	return quotient{api.Int{Neg: r.Neg, Mag: r.Num}, api.Int{Mag: divisor(r)}}
}

// divisor returns the digits of the denominator of r, which counts as 1 if it has the value 0.
func divisor(r api.Rat) string {
	if strings.Trim(r.Den, "\x00") == "" {
		return one
	}
	return r.Den
}

// plus returns x + y.
func (x quotient) plus(y quotient) quotient {
	return quotient{bigint.Add(bigint.Mul(x.num, y.den), bigint.Mul(y.num, x.den)), bigint.Mul(x.den, y.den)}
}

// times returns x * y.
func (x quotient) times(y quotient) quotient {
	return quotient{bigint.Mul(x.num, y.num), bigint.Mul(x.den, y.den)}
}

// compare returns -1, 0 or 1 if x is less than, equal to or greater than y.
func (x quotient) compare(y quotient) int {
	return bigint.Compare(bigint.Mul(x.num, y.den), bigint.Mul(y.num, x.den))
}

// number returns the canonical number with the value of the quotient.
func (x quotient) number() api.Rat {
	common := bigint.Gcd(x.num, x.den)
	num, _, _ := bigint.Div(x.num, common)
	den, _, _ := bigint.Div(x.den, common)
	if den.Mag == one {
		den.Mag = ""
	}
	return api.Rat{Neg: num.Neg, Num: num.Mag, Den: den.Mag}
}
