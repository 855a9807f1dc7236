package radical

import (
	"narrows/api"
	"narrows/bigint"
)

// primes are those by whose squares roots are divided.
var primes = [...]int{2, 3, 5, 7, 11, 13, 17, 19, 23, 29, 31, 37, 41, 43, 47, 53, 59, 61, 67, 71, 73, 79, 83, 89, 97}

// reduced returns the positive integer n divided by squares of primes as often as possible, and the product of these primes.
func reduced(n api.Int) (api.Int, api.Int) {
	if w, small := bigint.Small(n); small {
		rest, factor := reducedWord(w)
		return bigint.Of(rest), bigint.Of(factor)
	}
	// Adding 0 makes the result canonical, if there is nothing to be divided by.
	rest, factor := bigint.Add(n, api.Int{}), bigint.Of(1)
	for _, p := range primes {
		var more api.Int
		rest, more = withoutSquares(rest, bigint.Of(p))
		factor = bigint.Mul(factor, more)
	}
	return rest, factor
}

// reducedWord is reduced for a machine number.
func reducedWord(n int) (int, int) {
	factor := 1
	for _, p := range primes {
		for ; n%(p*p) == 0; n /= p * p {
			factor *= p
		}
	}
	return n, factor
}

// withoutSquares returns the positive integer n divided by the square of p as often as possible, and the product of as many factors p.
// After the first division it tries the square of the square, and so on; so numbers with many factors need few divisions.
func withoutSquares(n, p api.Int) (api.Int, api.Int) {
	square := bigint.Mul(p, p)
	once, divisible := divide(n, square)
	if !divisible {
		return n, bigint.Of(1)
	}
	rest, factor := withoutSquares(once, square)
	factor = bigint.Mul(factor, p)
	if last, divisible := divide(rest, square); divisible {
		return last, bigint.Mul(factor, p)
	}
	return rest, factor
}

// divide returns n / d and true, if it is an integer.
func divide(n, d api.Int) (api.Int, bool) {
	quotient, rest, _ := bigint.Div(n, d)
	return quotient, rest.Mag == ""
}
