package radical_test

import (
	"math/big"
	"math/rand"
	"slices"
	"testing"

	"narrows/api"
	"narrows/radical"
	"narrows/rational"
)

// add returns the sum of two sums.
func add(t *testing.T, a, b api.Sum) api.Sum {
	t.Helper()
	s, e := radical.Add(a, b)
	if e != api.OK {
		t.Fatalf("P3.3: Add(%s, %s): %d", show(a), show(b), e)
	}
	return s
}

// scale returns a multiple of a sum.
func scale(t *testing.T, s api.Sum, r api.Rat) api.Sum {
	t.Helper()
	product, e := radical.Scale(s, r)
	if e != api.OK {
		t.Fatalf("P3.3: Scale(%s, %s): %d", show(s), rational.Print(r), e)
	}
	return product
}

// compare compares two sums.
func compare(t *testing.T, a, b api.Sum) int {
	t.Helper()
	n, e := radical.Compare(a, b)
	if e != api.OK {
		t.Fatalf("P3.4: Compare(%s, %s): %d", show(a), show(b), e)
	}
	return n
}

// equal reports an error if two sums have different values.
func equal(t *testing.T, law string, a, b api.Sum) {
	t.Helper()
	if compare(t, a, b) != 0 || !near(a, value(b)) {
		t.Errorf("%s: %s has not the value of %s", law, show(a), show(b))
	}
}

// root returns the square root of a number.
func root(t *testing.T, r api.Rat) api.Sum {
	t.Helper()
	s, e := radical.Root(r)
	if e != api.OK {
		t.Fatalf("P3.5: Root(%s): %d", rational.Print(r), e)
	}
	return s
}

// triples calls a check for many triples of sums, and a number.
func triples(check func(a, b, c api.Sum, x api.Rat)) {
	r := rand.New(rand.NewSource(4))
	for range 400 {
		x := disguised(r, term(int64(r.Intn(21)-10), int64(1+r.Intn(9)), 1)).Coef
		check(random(r, 8), random(r, 8), random(r, 8), x)
		a := random(r, 4)
		check(a, slices.Clone(a), random(r, 1), x)
	}
}

func TestArithmetic(t *testing.T) {
	triples(func(a, b, c api.Sum, x api.Rat) {
		equal(t, "P3.3: a + b", add(t, a, b), add(t, b, a))
		equal(t, "P3.3: a + b + c", add(t, add(t, a, b), c), add(t, a, add(t, b, c)))
		equal(t, "P3.3: (a + b) * x", scale(t, add(t, a, b), x), add(t, scale(t, a, x), scale(t, b, x)))
		equal(t, "P3.3: a + 0", add(t, a, nil), a)
		equal(t, "P3.3: a * 1", scale(t, a, rat(1, 1)), a)
		equal(t, "P3.3: a * x * x", scale(t, scale(t, a, x), x), scale(t, a, rational.Mul(x, x)))
		if s := add(t, a, scale(t, a, rat(-1, 1))); len(s) != 0 {
			t.Errorf("P3.3: %s and its opposite are %s", show(a), show(s))
		}
		if s := scale(t, a, rat(0, 1)); len(s) != 0 {
			t.Errorf("P3.3: 0 times %s is %s", show(a), show(s))
		}
		together := slices.Concat(a, b)
		if s := add(t, a, b); !slices.Equal(s, definition(together)) {
			t.Errorf("P3.1: %s + %s is %s", show(a), show(b), show(s))
		}
		multiplied := slices.Clone(a)
		for i := range multiplied {
			multiplied[i].Coef = rational.Mul(multiplied[i].Coef, x)
		}
		if s := scale(t, a, x); !slices.Equal(s, definition(multiplied)) {
			t.Errorf("P3.1: %s * %s is %s", show(a), rational.Print(x), show(s))
		}
	})
}

func TestOrder(t *testing.T) {
	triples(func(a, b, c api.Sum, x api.Rat) {
		ab, bc := compare(t, a, b), compare(t, b, c)
		if ab != -compare(t, b, a) {
			t.Errorf("P3.4: %s and %s: %d", show(a), show(b), ab)
		}
		if ac := compare(t, a, c); ab == bc && ac != ab || ab == 0 && ac != bc || bc == 0 && ac != ab {
			t.Errorf("P3.4: not transitive: %s, %s, %s", show(a), show(b), show(c))
		}
		if compare(t, add(t, a, c), add(t, b, c)) != ab {
			t.Errorf("P3.4: %s and %s, after %s is added", show(a), show(b), show(c))
		}
		if compare(t, scale(t, a, x), scale(t, b, x)) != ab*rational.Sign(x) {
			t.Errorf("P3.4: %s and %s, multiplied by %s", show(a), show(b), rational.Print(x))
		}
		difference := add(t, a, scale(t, b, rat(-1, 1)))
		sign, e := radical.Sign(difference)
		if e != api.OK || sign != ab {
			t.Errorf("P3.4: the sign of the difference of %s and %s: %d, %d", show(a), show(b), sign, e)
		}
		if !near(difference, new(big.Float)) && value(difference).Sign() != ab {
			t.Errorf("P3.1: %s and %s: %d", show(a), show(b), ab)
		}
	})
}

// Sums of two square roots are compared with a third one by rational arithmetic: by squaring twice.
func TestOrderOfThreeRoots(t *testing.T) {
	for a := int64(0); a <= 20; a++ {
		for b := int64(0); b <= 20; b++ {
			for c := int64(0); c <= 90; c++ {
				want := 1
				if rest := c - a - b; rest >= 0 {
					want = big.NewInt(4 * a * b).Cmp(big.NewInt(rest * rest))
				}
				if got := compare(t, roots(a, b), roots(c)); got != want {
					t.Errorf("P3.4: sqrt(%d) + sqrt(%d) and sqrt(%d): %d", a, b, c, got)
				}
			}
		}
	}
}

// x + y * sqrt(d) is compared with 0 by rational arithmetic.
func TestSignsOfNumbersWithOneRoot(t *testing.T) {
	for d := int64(2); d <= 30; d++ {
		for n := int64(-12); n <= 12; n++ {
			for m := int64(-12); m <= 12; m++ {
				x, y := big.NewRat(n, 3), big.NewRat(m, 5)
				rest := new(big.Rat).Mul(x, x)
				rest.Sub(rest, new(big.Rat).Mul(new(big.Rat).Mul(y, y), big.NewRat(d, 1)))
				want := y.Sign()
				if x.Sign() == y.Sign() || rest.Sign() > 0 {
					want = x.Sign()
				} else if rest.Sign() == 0 {
					want = 0
				}
				s := api.Sum{term(n, 3, 1), term(m, 5, d)}
				if got, e := radical.Sign(s); e != api.OK || got != want {
					t.Errorf("P3.4: sign of %d/3 + %d/5 * sqrt(%d): %d, %d", n, m, d, got, e)
				}
			}
		}
	}
}

func TestSigns(t *testing.T) {
	for i, c := range []struct {
		s    api.Sum
		want int
	}{
		{nil, 0},
		{sum(1, 2, 1, 3, -1, 10), -1},
		{sum(1, 2, 1, 3, -1, 9), 1},
		{sum(-1, 1000000, 1000, 1), 0},
		{sum(5, 0, 0, 3), 0},
		{sum(-1, 2), -1},
		{sum(1, 101*101, -101, 1), 0},
		{sum(1, 101*101, -102, 1), -1},
		{sum(1, 101*101, -100, 1), 1},
		{sum(1, 10, 1, 11, -1, 5, -1, 18), 1},
		{roots(3, 5, 7), 1},
		{sum(-1, 3, -1, 5, -1, 7), -1},
	} {
		if got, e := radical.Sign(c.s); e != api.OK || got != c.want {
			t.Errorf("P3.1: sign of case %d: %d, %d", i, got, e)
		}
	}
}

// These sums of nine roots of integers with seven digits differ by less than 10^-36.
func TestOrderOfNearSums(t *testing.T) {
	var a, b api.Sum
	for _, n := range []int64{1, 25, 31, 84, 87, 134, 158, 182, 198} {
		a = append(a, term(1, 1, 1000000+n))
	}
	for _, n := range []int64{2, 18, 42, 66, 113, 116, 169, 175, 199} {
		b = append(b, term(1, 1, 1000000+n))
	}
	difference := value(a)
	difference.Sub(difference, value(b))
	if difference.Sign() == 0 || difference.MantExp(nil) > -115 {
		t.Fatal("the sums are not near")
	}
	if compare(t, a, b) != difference.Sign() || compare(t, b, a) != -difference.Sign() {
		t.Error("P3.4: near sums", compare(t, a, b))
	}
}

// The powers of sqrt(2) - 1 are numbers x * sqrt(2) + y that converge to 0, with alternating signs of x; those of sqrt(2) - 3/2 are negative for odd exponents.
func TestSignsOfPowers(t *testing.T) {
	for _, c := range []struct {
		minus *big.Rat
		odd   int
	}{{big.NewRat(1, 1), 1}, {big.NewRat(3, 2), -1}} {
		x, y := big.NewRat(1, 1), new(big.Rat).Neg(c.minus)
		for n := range 300 {
			want := 1
			if n%2 == 0 {
				want = c.odd
			}
			s := api.Sum{{Coef: number(y), Root: integer(big.NewInt(1))}, {Coef: number(x), Root: integer(big.NewInt(2))}}
			if got, e := radical.Sign(s); e != api.OK || got != want {
				t.Fatalf("P3.1: sign of the power %d of sqrt(2) - %v: %d, %d", n+1, c.minus, got, e)
			}
			// (x * sqrt(2) + y) * (sqrt(2) - z) = (y - x * z) * sqrt(2) + 2 * x - y * z
			nextX := new(big.Rat).Sub(y, new(big.Rat).Mul(x, c.minus))
			nextY := new(big.Rat).Sub(new(big.Rat).Mul(x, big.NewRat(2, 1)), new(big.Rat).Mul(y, c.minus))
			x, y = nextX, nextY
		}
	}
}

func TestOrderOfRoots(t *testing.T) {
	r := rand.New(rand.NewSource(6))
	for range 2000 {
		x, y := rat(int64(r.Intn(200)), int64(1+r.Intn(12))), rat(int64(r.Intn(200)), int64(1+r.Intn(12)))
		a, b := root(t, x), root(t, y)
		if compare(t, a, b) != rational.Compare(x, y) {
			t.Errorf("P3.5: the roots of %s and %s", rational.Print(x), rational.Print(y))
		}
		equal(t, "P3.5: the root of a square", root(t, rational.Mul(x, x)), radical.Of(x))
		together := compare(t, root(t, rational.Add(x, y)), add(t, a, b))
		if together > 0 || (together == 0) != (rational.Sign(x) == 0 || rational.Sign(y) == 0) {
			t.Errorf("P3.5: the root of %s + %s: %d", rational.Print(x), rational.Print(y), together)
		}
	}
}

// The roots of squares that are not reduced have the same values, too.
func TestRootsOfSquares(t *testing.T) {
	for _, n := range []string{"101", "10403", "18446744073709551557", "340282366920938463463374607431768211507"} {
		x := number(new(big.Rat).SetInt(parse(n)))
		equal(t, "P3.5: the root of a square", root(t, rational.Mul(x, x)), radical.Of(x))
		next := rational.Add(rational.Mul(x, x), rat(1, 1<<62))
		if compare(t, root(t, next), radical.Of(x)) != 1 {
			t.Errorf("P3.5: the root of a number that is little more than the square of %s", n)
		}
	}
}
