package rational_test

import (
	"math/rand"
	"testing"

	"narrows/api"
	"narrows/bigint"
	"narrows/rational"
)

// equal reports an error if a law does not hold.
func equal(t *testing.T, law string, got, want api.Rat) {
	t.Helper()
	if got != want {
		t.Errorf("%s: %s is not %s", law, rational.Print(got), rational.Print(want))
	}
}

// triples calls a check for many triples of canonical numbers.
func triples(check func(a, b, c api.Rat)) {
	r := rand.New(rand.NewSource(4))
	list := samples()
	for range 3000 {
		check(list[r.Intn(len(list))], list[r.Intn(len(list))], list[r.Intn(len(list))])
		n := 1 + r.Intn(12)
		check(random(r, n), random(r, n), random(r, n))
	}
}

// whole returns an integer as a number.
func whole(n api.Int) api.Rat {
	return api.Rat{Neg: n.Neg, Num: n.Mag}
}

func TestField(t *testing.T) {
	one := rational.Of(1)
	triples(func(a, b, c api.Rat) {
		equal(t, "P2.2: a + b", rational.Add(a, b), rational.Add(b, a))
		equal(t, "P2.2: a * b", rational.Mul(a, b), rational.Mul(b, a))
		equal(t, "P2.2: a + b + c", rational.Add(rational.Add(a, b), c), rational.Add(a, rational.Add(b, c)))
		equal(t, "P2.2: a * b * c", rational.Mul(rational.Mul(a, b), c), rational.Mul(a, rational.Mul(b, c)))
		equal(t, "P2.2: a * (b + c)", rational.Mul(a, rational.Add(b, c)), rational.Add(rational.Mul(a, b), rational.Mul(a, c)))
		equal(t, "P2.2: a + b - b", rational.Sub(rational.Add(a, b), b), a)
		equal(t, "P2.2: a - b + b", rational.Add(rational.Sub(a, b), b), a)
		equal(t, "P2.2: a - a", rational.Sub(a, a), zero)
		equal(t, "P2.2: a + -a", rational.Add(a, rational.Neg(a)), zero)
		equal(t, "P2.2: a * 1", rational.Mul(a, one), a)
		equal(t, "P2.2: a * 0", rational.Mul(a, zero), zero)
		if b == zero {
			return
		}
		q, e := rational.Quo(a, b)
		equal(t, "P2.2: a / b * b", rational.Mul(q, b), a)
		p, f := rational.Quo(rational.Mul(a, b), b)
		equal(t, "P2.2: a * b / b", p, a)
		if e != api.OK || f != api.OK {
			t.Errorf("P2.2: Quo by %#v: %d, %d", b, e, f)
		}
	})
}

func TestOrder(t *testing.T) {
	triples(func(a, b, c api.Rat) {
		ab, bc := rational.Compare(a, b), rational.Compare(b, c)
		if ab != -rational.Compare(b, a) || (ab == 0) != (a == b) || ab < -1 || ab > 1 {
			t.Errorf("P2.3: Compare(%#v, %#v): %d", a, b, ab)
		}
		if ab == bc && rational.Compare(a, c) != ab || ab == 0 && rational.Compare(a, c) != bc {
			t.Errorf("P2.3: not transitive: %#v, %#v, %#v", a, b, c)
		}
		if ab != rational.Sign(rational.Sub(a, b)) {
			t.Errorf("P2.3: Compare(%#v, %#v) and the difference", a, b)
		}
		if ab != rational.Compare(rational.Add(a, c), rational.Add(b, c)) {
			t.Errorf("P2.3: Compare(%#v, %#v) after adding %#v", a, b, c)
		}
		if ab*rational.Sign(c) != rational.Compare(rational.Mul(a, c), rational.Mul(b, c)) {
			t.Errorf("P2.3: Compare(%#v, %#v) after multiplying with %#v", a, b, c)
		}
	})
}

func TestRounding(t *testing.T) {
	one := bigint.Of(1)
	triples(func(a, b, c api.Rat) {
		for _, r := range []api.Rat{a, rational.Neg(b), expanded(c, power(5, 1))} {
			floor, ceil := rational.Floor(r), rational.Ceil(r)
			if rational.Compare(whole(floor), r) > 0 || rational.Compare(whole(bigint.Add(floor, one)), r) <= 0 {
				t.Errorf("P2.4: Floor(%#v): %#v", r, floor)
			}
			if ceil != bigint.Neg(rational.Floor(rational.Neg(r))) {
				t.Errorf("P2.4: Ceil(%#v): %#v", r, ceil)
			}
			if bigint.Check(floor) != api.OK || bigint.Check(ceil) != api.OK {
				t.Errorf("P2.6: Floor(%#v), Ceil: %#v, %#v", r, floor, ceil)
			}
		}
	})
}

// Halves, thirds and quarters around 0, where rounding changes its direction.
func TestRoundingOfSmallNumbers(t *testing.T) {
	for n := -24; n <= 24; n++ {
		for d := 1; d <= 6; d++ {
			r, _ := rational.Ratio(n, d)
			floor := (n+24*d)/d - 24
			if rational.Floor(r) != bigint.Of(floor) {
				t.Errorf("P2.4: Floor(%d/%d): %#v", n, d, rational.Floor(r))
			}
			if n%d != 0 {
				floor++
			}
			if rational.Ceil(r) != bigint.Of(floor) {
				t.Errorf("P2.4: Ceil(%d/%d): %#v", n, d, rational.Ceil(r))
			}
		}
	}
}

func TestResultsAreCanonical(t *testing.T) {
	list := []api.Rat{zero, ratio(1, 1), ratio(-5, 6), over(power(62, 1), power(31, -1)), over(power(70, 0), power(64, 1))}
	for _, a := range list {
		for _, x := range variants(a) {
			for _, b := range list {
				for _, y := range variants(b) {
					q, _ := rational.Quo(x, y)
					s, _ := rational.Simplest(x, y)
					for i, r := range []api.Rat{rational.Neg(x), rational.Add(x, y), rational.Sub(x, y), rational.Sub(x, x), rational.Mul(x, y), q, s} {
						if rational.Check(r) != api.OK || r != number(value(r)) {
							t.Errorf("P2.6: result %d of %#v and %#v is not canonical: %#v", i, x, y, r)
						}
					}
				}
			}
		}
	}
}

func TestAddingZeroMakesNumbersEqual(t *testing.T) {
	list := samples()
	for i, a := range list {
		for _, nothing := range append(variants(zero), zero) {
			equal(t, "P2.6: a + 0", rational.Add(a, nothing), a)
			equal(t, "P2.6: 0 + a", rational.Add(nothing, a), a)
		}
		for _, x := range variants(a) {
			equal(t, "P2.6: x + 0", rational.Add(x, zero), a)
			if rational.Compare(x, a) != 0 {
				t.Errorf("P2.6: %#v has not the value of %#v", x, a)
			}
		}
		for _, b := range list[:i] {
			if same := rational.Add(a, zero) == rational.Add(b, zero); same != (rational.Compare(a, b) == 0) {
				t.Errorf("P2.6: %#v and %#v: %t", a, b, same)
			}
		}
	}
}
