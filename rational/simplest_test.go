package rational_test

import (
	"math/big"
	"math/rand"
	"testing"

	"narrows/api"
	"narrows/rational"
)

// least returns the simplest number of an interval by trying all denominators, up to a greatest one.
func least(a, b *big.Rat, greatest int64) *big.Rat {
	for d := int64(1); d <= greatest; d++ {
		if best := nearest(a, b, d); best != nil {
			return best
		}
	}
	return nil
}

// nearest returns the number with the least absolute value among the multiples of 1/d from a to b, or nil if there are none.
func nearest(a, b *big.Rat, d int64) *big.Rat {
	if a.Sign() <= 0 && b.Sign() >= 0 {
		return new(big.Rat)
	}
	if b.Sign() < 0 {
		if n := nearest(new(big.Rat).Neg(b), new(big.Rat).Neg(a), d); n != nil {
			return n.Neg(n)
		}
		return nil
	}
	// The least multiple that is not less than a is a * d, rounded up.
	scaled := new(big.Rat).Mul(a, new(big.Rat).SetInt64(d))
	n, rest := new(big.Int).DivMod(scaled.Num(), scaled.Denom(), new(big.Int))
	if rest.Sign() > 0 {
		n.Add(n, big.NewInt(1))
	}
	if r := new(big.Rat).SetFrac(n, big.NewInt(d)); r.Cmp(b) <= 0 {
		return r
	}
	return nil
}

// simplest reports an error if Simplest does not return the number that is expected.
func simplest(t *testing.T, a, b api.Rat, expected *big.Rat) {
	t.Helper()
	r, e := rational.Simplest(a, b)
	if e != api.OK || r != number(expected) {
		t.Errorf("P2.5: Simplest(%s, %s): %s, %d, want %s", rational.Print(a), rational.Print(b), rational.Print(r), e, expected)
	}
}

func TestSimplestOfSmallNumbers(t *testing.T) {
	var list []*big.Rat
	for d := int64(1); d <= 9; d++ {
		for n := -3 * d; n <= 3*d; n++ {
			if v := big.NewRat(n, d); v.Denom().Int64() == d {
				list = append(list, v)
			}
		}
	}
	for _, a := range list {
		for _, b := range list {
			if a.Cmp(b) <= 0 {
				simplest(t, number(a), number(b), least(a, b, 9))
			} else if r, e := rational.Simplest(number(a), number(b)); r != zero || e != api.ErrOrder {
				t.Errorf("P2.1: Simplest(%s, %s): %#v, %d", a, b, r, e)
			}
		}
	}
}

func TestSimplestOfNarrowIntervals(t *testing.T) {
	r := rand.New(rand.NewSource(5))
	for range 3000 {
		d := 1 + r.Int63n(2000)
		a := big.NewRat(r.Int63n(20*d)-10*d, d)
		b := new(big.Rat).Add(a, big.NewRat(r.Int63n(50), 1+r.Int63n(100000)))
		simplest(t, number(a), number(b), least(a, b, d))
	}
}

// Numbers whose denominators are not greater than that of a number differ from it by at least the square of 1 / denominator; so a number of any size is the simplest one of a narrower interval around it.
func TestSimplestOfLongNumbers(t *testing.T) {
	r := rand.New(rand.NewSource(6))
	for range 1000 {
		hidden := random(r, 1+r.Intn(60))
		v := value(hidden)
		width := new(big.Rat).SetFrac(big.NewInt(1), new(big.Int).Mul(v.Denom(), v.Denom()))
		below := new(big.Rat).Mul(width, big.NewRat(r.Int63n(1000), 1000))
		above := new(big.Rat).Mul(width, big.NewRat(r.Int63n(1000), 1000))
		simplest(t, number(below.Sub(v, below)), number(above.Add(v, above)), v)
	}
}

func TestSimplestOfSingleNumbers(t *testing.T) {
	for _, a := range samples() {
		simplest(t, a, a, value(a))
		for _, x := range variants(a) {
			simplest(t, x, a, value(a))
			simplest(t, a, x, value(a))
		}
	}
}

func TestSimplestOfWideIntervals(t *testing.T) {
	list := samples()
	for _, a := range list {
		for _, b := range list {
			v, w := value(a), value(b)
			r, e := rational.Simplest(a, b)
			if v.Cmp(w) > 0 {
				if r != zero || e != api.ErrOrder {
					t.Errorf("P2.1: Simplest(%#v, %#v): %#v, %d", a, b, r, e)
				}
				continue
			}
			if rational.Compare(a, r) > 0 || rational.Compare(r, b) > 0 || e != api.OK {
				t.Errorf("P2.5: Simplest(%#v, %#v): %#v, %d", a, b, r, e)
			}
			if expected := least(v, w, 3000); expected != nil {
				simplest(t, a, b, expected)
			} else if _, den := rational.Parts(r); value(whole(den)).Cmp(big.NewRat(3000, 1)) <= 0 {
				t.Errorf("P2.5: Simplest(%#v, %#v): %#v", a, b, r)
			}
		}
	}
}

func TestSimplestOfNumbersThatAreNotCanonical(t *testing.T) {
	list := []api.Rat{zero, ratio(-7, 3), ratio(5, 17), ratio(6, 17), ratio(-6, 17), ratio(-5, 17), ratio(9, 4)}
	for _, a := range list {
		for _, b := range list {
			for _, x := range variants(a) {
				for _, y := range variants(b) {
					r, e := rational.Simplest(x, y)
					if s, f := rational.Simplest(a, b); r != s || e != f {
						t.Errorf("P2.1: Simplest(%#v, %#v): %#v, %d", x, y, r, e)
					}
				}
			}
		}
	}
}

// The continued fractions of neighbouring Fibonacci quotients are as long as numbers of their size allow.
func TestSimplestOfLongContinuedFractions(t *testing.T) {
	x, y := big.NewInt(1), big.NewInt(1)
	for range 3000 {
		x, y = y, new(big.Int).Add(x, y)
	}
	z := new(big.Int).Add(x, y)
	first, second := new(big.Rat).SetFrac(y, x), new(big.Rat).SetFrac(z, y)
	if first.Cmp(second) > 0 {
		first, second = second, first
	}
	simplest(t, number(first), number(second), new(big.Rat).SetFrac(y, x))
}
