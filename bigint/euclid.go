package bigint

import (
	"iter"
	"math/bits"
)

// gcd returns the greatest common divisor of x and y.
func gcd(x, y natural) natural {
	var divisor natural
	for first := range pairs(x, y) {
		divisor = first
	}
	return divisor
}

// pairs yields steps of Euclid's algorithm: x and y, and then pairs with the same common divisors, until the second number is 0.
func pairs(x, y natural) iter.Seq2[natural, natural] {
	return func(yield func(x, y natural) bool) {
		for yield(x, y) && len(y) > 0 {
			x, y = nextPair(x, y)
		}
	}
}

// nextPair returns the pair after x and y (y is not 0), or one that is many steps later, if machine numbers suffice to find it.
func nextPair(x, y natural) (natural, natural) {
	if len(x) == 1 && len(y) == 1 {
		return trim(natural{wordGcd(x[0], y[0])}), nil
	}
	if len(y) > 1 && compare(x, y) >= 0 {
		if many := foresee(x, y); many.y != 0 {
			return many.apply(x, y)
		}
	}
	_, rest := divide(x, y)
	return y, rest
}

// wordGcd returns the greatest common divisor of two machine numbers.
func wordGcd(x, y uint64) uint64 {
	for y != 0 {
		x, y = y, x%y
	}
	return x
}

// steps are several steps of Euclid's algorithm at once: from x and y they lead to s.x * x - s.y * y and s.nextY * y - s.nextX * x, or, if odd is true, to the opposites of these numbers.
type steps struct {
	x, y, nextX, nextY uint64
	odd                bool
}

// foresee finds steps from the highest bits of x and y, as long as these are certain to yield the quotients of the whole numbers (Lehmer's algorithm with Collins's condition). There are none if the result has y = 0. y is not greater than x and has at least two digits.
func foresee(x, y natural) steps {
	n := len(x)
	shift := bits.LeadingZeros64(x[n-1])
	a := top(x, n, shift)
	b := top(y, n, shift)
	s := steps{nextX: 1, odd: true}
	laterX, laterY := uint64(0), uint64(1)
	for b >= laterY && a-b >= s.nextY+laterY {
		quotient := a / b
		a, b = b, a%b
		s.x, s.nextX, laterX = s.nextX, laterX, s.nextX+quotient*laterX
		s.y, s.nextY, laterY = s.nextY, laterY, s.nextY+quotient*laterY
		s.odd = !s.odd
	}
	return s
}

// top returns the highest word of x * 2^shift, as a number with n digits.
func top(x natural, n, shift int) uint64 {
	w := uint64(0)
	if len(x) == n {
		w = x[n-1] << shift
	}
	if len(x) >= n-1 {
		w |= x[n-2] >> (wordBits - shift)
	}
	return w
}

// apply returns the pair to which the steps lead from x and y. It has no more digits than x.
func (s steps) apply(x, y natural) (natural, natural) {
	first, second := make(natural, len(x)), make(natural, len(x))
	if s.odd {
		combine(first, y, s.y, x, s.x)
		combine(second, x, s.nextX, y, s.nextY)
	} else {
		combine(first, x, s.x, y, s.y)
		combine(second, y, s.nextY, x, s.nextX)
	}
	return trim(first), trim(second)
}

// combine adds x * p - y * q to the zeros of target. What is carried beyond its digits cancels; one of x and y is as long as target, and the other one at most a digit shorter.
func combine(target, x natural, p uint64, y natural, q uint64) {
	carry := addProduct(target[:len(x)], x, p)
	if len(x) < len(target) {
		target[len(x)] = carry
	}
	borrow := subProduct(target[:len(y)], y, q)
	if len(y) < len(target) {
		target[len(y)] -= borrow
	}
}
