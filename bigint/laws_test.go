package bigint_test

import (
	"math/rand"
	"testing"

	"narrows/api"
	"narrows/bigint"
)

// zero is the canonical integer with the value 0.
var zero = api.Int{}

// equal reports an error if a law does not hold.
func equal(t *testing.T, law string, got, want api.Int) {
	t.Helper()
	if got != want {
		t.Errorf("%s: %s is not %s", law, bigint.Print(got), bigint.Print(want))
	}
}

// triples calls a check for many triples of integers.
func triples(check func(a, b, c api.Int)) {
	r := rand.New(rand.NewSource(4))
	list := samples()
	for range 2000 {
		check(list[r.Intn(len(list))], list[r.Intn(len(list))], list[r.Intn(len(list))])
		check(random(r, 40), random(r, 40), random(r, 40))
	}
}

func TestRing(t *testing.T) {
	triples(func(a, b, c api.Int) {
		equal(t, "P1.2: a + b", bigint.Add(a, b), bigint.Add(b, a))
		equal(t, "P1.2: a * b", bigint.Mul(a, b), bigint.Mul(b, a))
		equal(t, "P1.2: a + b + c", bigint.Add(bigint.Add(a, b), c), bigint.Add(a, bigint.Add(b, c)))
		equal(t, "P1.2: a * b * c", bigint.Mul(bigint.Mul(a, b), c), bigint.Mul(a, bigint.Mul(b, c)))
		equal(t, "P1.2: a * (b + c)", bigint.Mul(a, bigint.Add(b, c)), bigint.Add(bigint.Mul(a, b), bigint.Mul(a, c)))
		equal(t, "P1.2: a + b - b", bigint.Sub(bigint.Add(a, b), b), a)
		equal(t, "P1.2: a - a", bigint.Sub(a, a), zero)
		equal(t, "P1.2: a + -a", bigint.Add(a, bigint.Neg(a)), zero)
		equal(t, "P1.2: a * 1", bigint.Mul(a, bigint.Of(1)), a)
		equal(t, "P1.2: a * 0", bigint.Mul(a, zero), zero)
	})
}

func TestResultsAreCanonical(t *testing.T) {
	for _, a := range []api.Int{zero, bigint.Of(-5), power(64, -1), power(200, 0)} {
		for _, x := range variants(a) {
			q, r, _ := bigint.Div(x, api.Int{Neg: true, Mag: "\x00\x05"})
			root, _, _ := bigint.Root(x)
			for i, result := range []api.Int{bigint.Neg(x), bigint.Add(x, zero), bigint.Add(zero, x), bigint.Sub(x, zero), bigint.Sub(zero, x), bigint.Sub(x, a), bigint.Mul(x, bigint.Of(-1)), bigint.Mul(x, zero), bigint.Gcd(x, zero), bigint.Gcd(x, x), q, r, root} {
				if bigint.Check(result) != api.OK {
					t.Errorf("P1.2: result %d of %v is not canonical: %v", i, x, result)
				}
			}
		}
	}
}

func TestSmallNumbers(t *testing.T) {
	for a := -40; a <= 40; a++ {
		for b := -40; b <= 40; b++ {
			x, y := bigint.Of(a), bigint.Of(b)
			equal(t, "P1.3: Add", bigint.Add(x, y), bigint.Of(a+b))
			equal(t, "P1.3: Sub", bigint.Sub(x, y), bigint.Of(a-b))
			equal(t, "P1.3: Mul", bigint.Mul(x, y), bigint.Of(a*b))
			if b != 0 {
				q, r, _ := bigint.Div(x, y)
				equal(t, "P1.3: Div", bigint.Add(bigint.Mul(q, y), r), x)
				if d := ((a % b) + b) % b; r != bigint.Of(d) {
					t.Errorf("P1.3: Div(%d, %d): %v", a, b, r)
				}
			}
			if c := bigint.Compare(x, y); c < 0 != (a < b) || c > 0 != (a > b) {
				t.Errorf("P1.3: Compare(%d, %d): %d", a, b, c)
			}
		}
	}
}

func TestDivision(t *testing.T) {
	triples(func(a, b, c api.Int) {
		q, r, e := bigint.Div(a, b)
		if b == zero {
			if e != api.ErrDivide || q != zero || r != zero {
				t.Error("P1.4: division by 0", q, r, e)
			}
			return
		}
		equal(t, "P1.4: q * b + r", bigint.Add(bigint.Mul(q, b), r), a)
		size := func(x api.Int) api.Int { return api.Int{Mag: x.Mag} }
		if e != api.OK || r != zero && (r.Neg != b.Neg || bigint.Compare(size(r), size(b)) >= 0) {
			t.Errorf("P1.4: Div(%v, %v): %v, %d", a, b, r, e)
		}
		q, r, _ = bigint.Div(bigint.Mul(b, c), b)
		equal(t, "P1.4: b * c / b", q, c)
		equal(t, "P1.4: b * c modulo b", r, zero)
	})
}

// The quotient digits of these are guessed too great, by 1 and by 2, from the first digits.
func TestQuotientDigits(t *testing.T) {
	words := []string{"\x00\x00\x00\x00\x00\x00\x00\x00", "\x00\x00\x00\x00\x00\x00\x00\x01", "\x7f\xff\xff\xff\xff\xff\xff\xff", "\x80\x00\x00\x00\x00\x00\x00\x00", "\xff\xff\xff\xff\xff\xff\xff\xfe", "\xff\xff\xff\xff\xff\xff\xff\xff"}
	for i := range len(words) * len(words) * len(words) * len(words) {
		dividend := ""
		for rest := i; len(dividend) < 32; rest /= len(words) {
			dividend += words[rest%len(words)]
		}
		for j := range len(words) * len(words) * len(words) {
			divisor := words[j%6] + words[j/6%6] + words[j/36]
			checkDiv(t, api.Int{Mag: dividend}, api.Int{Neg: j%2 == 0, Mag: divisor})
		}
	}
}

func TestDivisors(t *testing.T) {
	triples(func(a, b, c api.Int) {
		g := bigint.Gcd(a, b)
		equal(t, "P1.5: gcd(b, a)", bigint.Gcd(b, a), g)
		equal(t, "P1.5: gcd(-a, b)", bigint.Gcd(bigint.Neg(a), b), g)
		equal(t, "P1.5: gcd(a * c, b * c)", bigint.Gcd(bigint.Mul(a, c), bigint.Mul(b, c)), bigint.Mul(g, api.Int{Mag: c.Mag}))
		if a == zero && b == zero {
			equal(t, "P1.5: gcd(0, 0)", g, zero)
			return
		}
		p, r, _ := bigint.Div(a, g)
		q, s, _ := bigint.Div(b, g)
		if g.Neg || g == zero || r != zero || s != zero {
			t.Errorf("P1.5: Gcd(%v, %v): %v", a, b, g)
		}
		equal(t, "P1.5: quotients", bigint.Gcd(p, q), bigint.Of(1))
	})
}

// All quotients of Euclid's algorithm are 1 for Fibonacci numbers, and it takes the most steps.
func TestDivisorsOfFibonacciNumbers(t *testing.T) {
	a, b := bigint.Of(0), bigint.Of(1)
	for range 2000 {
		a, b = b, bigint.Add(a, b)
		equal(t, "P1.5: Fibonacci numbers", bigint.Gcd(a, b), bigint.Of(1))
	}
	factor := power(500, 3)
	equal(t, "P1.5: multiples", bigint.Gcd(bigint.Mul(a, factor), bigint.Mul(b, factor)), factor)
}

func TestDivisorsOfDifferentLengths(t *testing.T) {
	r := rand.New(rand.NewSource(5))
	for range 2000 {
		d := random(r, 30)
		a, b := bigint.Mul(d, random(r, 200)), bigint.Mul(d, random(r, 20))
		checkBinary(t, a, b)
		checkBinary(t, b, a)
	}
}

func TestRoots(t *testing.T) {
	one := bigint.Of(1)
	triples(func(a, b, c api.Int) {
		for _, x := range []api.Int{a, bigint.Mul(b, b), bigint.Sub(bigint.Mul(b, b), one), bigint.Add(bigint.Mul(c, c), one)} {
			r, exact, e := bigint.Root(x)
			if x.Neg {
				if r != zero || exact || e != api.ErrRange {
					t.Errorf("P1.6: Root(%v): %v, %t, %d", x, r, exact, e)
				}
				continue
			}
			next := bigint.Add(r, one)
			if e != api.OK || r.Neg || bigint.Compare(bigint.Mul(r, r), x) > 0 || bigint.Compare(bigint.Mul(next, next), x) <= 0 {
				t.Errorf("P1.6: Root(%v): %v, %d", x, r, e)
			}
			if exact != (bigint.Mul(r, r) == x) {
				t.Errorf("P1.6: Root(%v): %t", x, exact)
			}
		}
	})
	for n := range 3000 {
		checkRoot(t, bigint.Of(n))
	}
	for _, x := range variants(zero) {
		if r, exact, e := bigint.Root(x); r != zero || !exact || e != api.OK {
			t.Errorf("P1.6: Root(%v): %v, %t, %d", x, r, exact, e)
		}
	}
}

func TestOrder(t *testing.T) {
	triples(func(a, b, c api.Int) {
		ab, bc := bigint.Compare(a, b), bigint.Compare(b, c)
		if ab != -bigint.Compare(b, a) || (ab == 0) != (a == b) {
			t.Errorf("P1.8: Compare(%v, %v): %d", a, b, ab)
		}
		if ab == bc && bigint.Compare(a, c) != ab || ab == 0 && bigint.Compare(a, c) != bc {
			t.Errorf("P1.8: not transitive: %v, %v, %v", a, b, c)
		}
		if ab != bigint.Compare(bigint.Sub(a, b), zero) || ab != -bigint.Compare(bigint.Neg(a), bigint.Neg(b)) {
			t.Errorf("P1.8: Compare(%v, %v): %d", a, b, ab)
		}
		n, size := bigint.Bits(a), api.Int{Mag: a.Mag}
		if bigint.Compare(size, power(uint(n), 0)) >= 0 || n > 0 && bigint.Compare(size, power(uint(n-1), 0)) < 0 || n < 0 {
			t.Errorf("P1.8: Bits(%v): %d", a, n)
		}
	})
}
