package bigint

import "math/bits"

// root returns the square root of x, rounded down.
func root(x natural) natural {
	switch len(x) {
	case 0:
		return nil
	case 1:
		return natural{wordRoot(x[0])}
	}
	// The root of the upper half of the bits yields the upper half of the root; one more makes the guess too great, as Newton's method needs it here.
	length := wordBits*len(x) - bits.LeadingZeros64(x[len(x)-1])
	lower := length / 4
	upper := root(shiftRight(x, 2*lower))
	guess := trim(shiftLeft(sum(upper, natural{1}), lower))
	for {
		quotient, _ := divide(x, guess)
		better := shiftRight(sum(guess, quotient), 1)
		if compare(better, guess) >= 0 {
			return guess
		}
		guess = better
	}
}

// wordRoot returns the square root of a machine number that is not 0, rounded down.
func wordRoot(w uint64) uint64 {
	guess := uint64(1) << ((bits.Len64(w) + 1) / 2)
	for {
		better := (guess + w/guess) / 2
		if better >= guess {
			return guess
		}
		guess = better
	}
}
