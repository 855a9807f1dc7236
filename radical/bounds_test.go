package radical_test

import (
	"math/big"
	"math/rand"
	"testing"

	"narrows/api"
	"narrows/radical"
	"narrows/rational"
)

// bounds returns the bounds of a sum.
func bounds(t *testing.T, s api.Sum, bits int) (api.Rat, api.Rat) {
	t.Helper()
	lower, upper, e := radical.Bounds(s, bits)
	if e != api.OK {
		t.Fatalf("P3.6: Bounds(%s, %d): %d", show(s), bits, e)
	}
	if rational.Check(lower) != api.OK || rational.Check(upper) != api.OK {
		t.Fatalf("P3.6: the bounds of %s for %d bits are not canonical", show(s), bits)
	}
	return lower, upper
}

// defined returns the bounds of a sum term by term, as the document defines them.
func defined(s api.Sum, bits int) (api.Rat, api.Rat) {
	lower, upper := new(big.Rat), new(big.Rat)
	q := new(big.Int).Lsh(big.NewInt(1), uint(bits))
	for _, t := range definition(s) {
		square := new(big.Int).Mul(valueOf(t.Root), new(big.Int).Mul(q, q))
		k, exact := isSquare(square)
		low := new(big.Rat).SetFrac(k, q)
		high := new(big.Rat).Set(low)
		if !exact {
			high.SetFrac(new(big.Int).Add(k, big.NewInt(1)), q)
		}
		coef := ratioOf(t.Coef)
		if coef.Sign() < 0 {
			low, high = high, low
		}
		lower.Add(lower, low.Mul(low, coef))
		upper.Add(upper, high.Mul(high, coef))
	}
	return number(lower), number(upper)
}

func TestBounds(t *testing.T) {
	for i, c := range []struct {
		s            api.Sum
		bits         int
		lower, upper api.Rat
	}{
		{nil, 0, api.Rat{}, api.Rat{}},
		{nil, 4096, api.Rat{}, api.Rat{}},
		{roots(2), 0, rat(1, 1), rat(2, 1)},
		{roots(2), 1, rat(1, 1), rat(3, 2)},
		{roots(2), 2, rat(5, 4), rat(3, 2)},
		{roots(2), 3, rat(11, 8), rat(3, 2)},
		{roots(2), 10, rat(181, 128), rat(1449, 1024)},
		{sum(-1, 2), 0, rat(-2, 1), rat(-1, 1)},
		{roots(8), 0, rat(2, 1), rat(4, 1)},
		{roots(4), 0, rat(2, 1), rat(2, 1)},
		{roots(101 * 101), 0, rat(101, 1), rat(101, 1)},
		{sum(-3, 103*103), 7, rat(-309, 1), rat(-309, 1)},
		{sum(1, 3, -1, 2), 0, rat(-1, 1), rat(1, 1)},
		{api.Sum{term(1, 3, 2), term(-1, 2, 5), term(1, 7, 1)}, 0, rat(-43, 42), rat(-4, 21)},
		{api.Sum{term(-7, 3, 1)}, 5, rat(-7, 3), rat(-7, 3)},
	} {
		if lower, upper := bounds(t, c.s, c.bits); lower != c.lower || upper != c.upper {
			t.Errorf("P3.6: bounds of case %d: %s, %s", i, rational.Print(lower), rational.Print(upper))
		}
	}
	for _, bits := range []int{-1, -4096, 4097, 1 << 40} {
		for _, s := range []api.Sum{nil, roots(2)} {
			if lower, upper, e := radical.Bounds(s, bits); lower != (api.Rat{}) || upper != (api.Rat{}) || e != api.ErrRange {
				t.Errorf("P3.6: Bounds(%s, %d): %s, %s, %d", show(s), bits, rational.Print(lower), rational.Print(upper), e)
			}
		}
	}
}

// contains reports an error if bounds do not contain a value.
func contains(t *testing.T, s api.Sum, lower, upper api.Rat) {
	t.Helper()
	if compare(t, radical.Of(lower), s) > 0 || compare(t, s, radical.Of(upper)) > 0 {
		t.Errorf("P3.6: the value of %s does not lie from %s to %s", show(s), rational.Print(lower), rational.Print(upper))
	}
	low, high := real(ratioOf(lower)), real(ratioOf(upper))
	v := value(s)
	if !near(s, low) && low.Cmp(v) > 0 || !near(s, high) && high.Cmp(v) < 0 {
		t.Errorf("P3.6: the value %v does not lie from %v to %v", v, low, high)
	}
}

func TestBoundsOfRandomSums(t *testing.T) {
	r := rand.New(rand.NewSource(7))
	for range 100 {
		s := random(r, 8)
		coefs := new(big.Rat)
		for _, t := range definition(s) {
			coefs.Add(coefs, new(big.Rat).Abs(ratioOf(t.Coef)))
		}
		var wideLower, wideUpper api.Rat
		for i, bits := range []int{0, 1, 2, 3, 7, 8, 9, 16, 31, 64, 100} {
			lower, upper := bounds(t, s, bits)
			wantLower, wantUpper := defined(s, bits)
			if lower != wantLower || upper != wantUpper {
				t.Fatalf("P3.6: bounds of %s for %d bits: %s, %s", show(s), bits, rational.Print(lower), rational.Print(upper))
			}
			contains(t, s, lower, upper)
			if i > 0 && (rational.Compare(wideLower, lower) > 0 || rational.Compare(upper, wideUpper) > 0) {
				t.Errorf("P3.6: the bounds of %s for %d bits are not within those for fewer ones", show(s), bits)
			}
			q := new(big.Rat).SetInt(new(big.Int).Lsh(big.NewInt(1), uint(bits)))
			if rational.Compare(rational.Sub(upper, lower), number(q.Quo(coefs, q))) > 0 {
				t.Errorf("P3.6: the bounds of %s for %d bits are too far apart", show(s), bits)
			}
			wideLower, wideUpper = lower, upper
		}
	}
}

func TestPreciseBounds(t *testing.T) {
	s := api.Sum{term(1, 3, 2), term(-5, 7, 3), term(1, 1, 1)}
	for _, bits := range []int{4095, 4096} {
		lower, upper := bounds(t, s, bits)
		wantLower, wantUpper := defined(s, bits)
		if lower != wantLower || upper != wantUpper {
			t.Errorf("P3.6: bounds for %d bits", bits)
		}
		contains(t, s, lower, upper)
	}
}
