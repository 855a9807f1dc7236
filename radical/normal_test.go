package radical_test

import (
	"math/big"
	"math/rand"
	"slices"
	"testing"

	"narrows/api"
	"narrows/radical"
)

// reduce divides root by squares of primes up to 97, and multiplies coef by these primes, as the definition says.
func reduce(coef *big.Rat, root *big.Int) {
	for p := int64(2); p <= 97; p++ {
		if !isPrime(p) {
			continue
		}
		square := big.NewInt(p * p)
		for new(big.Int).Mod(root, square).Sign() == 0 {
			root.Div(root, square)
			coef.Mul(coef, big.NewRat(p, 1))
		}
	}
}

// isSquare returns whether a number is a square, and its root, rounded down.
func isSquare(v *big.Int) (*big.Int, bool) {
	k := new(big.Int).Sqrt(v)
	return k, new(big.Int).Mul(k, k).Cmp(v) == 0
}

// definition returns the normal form of a sum step by step, as the document defines it.
func definition(s api.Sum) api.Sum {
	type reduced struct {
		coef *big.Rat
		root *big.Int
	}
	var classes [][]reduced
next:
	for _, t := range s {
		x := reduced{ratioOf(t.Coef), valueOf(t.Root)}
		if x.coef.Sign() == 0 || x.root.Sign() == 0 {
			continue
		}
		reduce(x.coef, x.root)
		for i, class := range classes {
			if _, same := isSquare(new(big.Int).Mul(class[0].root, x.root)); same {
				classes[i] = append(class, x)
				continue next
			}
		}
		classes = append(classes, []reduced{x})
	}
	var n api.Sum
	for _, class := range classes {
		m := slices.MinFunc(class, func(x, y reduced) int { return x.root.Cmp(y.root) }).root
		coef := new(big.Rat)
		for _, x := range class {
			k, _ := isSquare(new(big.Int).Mul(x.root, m))
			coef.Add(coef, new(big.Rat).Mul(x.coef, new(big.Rat).SetFrac(k, m)))
		}
		if coef.Sign() != 0 {
			n = append(n, api.Term{Coef: number(coef), Root: integer(m)})
		}
	}
	slices.SortFunc(n, func(x, y api.Term) int { return valueOf(x.Root).Cmp(valueOf(y.Root)) })
	return n
}

func TestNormalForms(t *testing.T) {
	for i, c := range []struct{ s, want api.Sum }{
		{nil, nil},
		{api.Sum{term(3, 2, 8), term(-1, 1, 2), term(0, 1, 5)}, sum(2, 2)},
		{sum(5, 0, 0, 7), nil},
		{sum(1, 2, -1, 2), nil},
		{sum(2, 2, -1, 8), nil},
		{roots(7, 5, 3, 1), roots(1, 3, 5, 7)},
		{roots(65536, 256, 255), append(sum(272, 1), term(1, 1, 255))},
		{roots(97*97, 101*101), sum(198, 1)},
		{roots(101 * 101), roots(101 * 101)},
		{roots(2*103*103, 2*101*101), api.Sum{term(204, 101, 2*101*101)}},
		{roots(2*103*103, 2*101*101, 2), sum(205, 2)},
		{roots(2*101*101, 3*101*101), roots(2*101*101, 3*101*101)},
		{sum(103, 101*101, -101, 103*103), nil},
		{sum(1, 1, -1, 1, 1, 103*103, 1, 107*107), sum(210, 1)},
		{roots(4 * 101 * 101 * 101), sum(2, 101*101*101)},
		{roots(101, 101*101*101), sum(102, 101)},
		{sum(1, 1<<62), sum(1<<31, 1)},
	} {
		if n, e := radical.Normal(c.s); e != api.OK || !slices.Equal(n, c.want) {
			t.Errorf("P3.2: normal form of case %d: %s, %d", i, show(n), e)
		}
	}
}

// All squares up to that of 120: those of greater primes than 97 remain.
func TestSquares(t *testing.T) {
	for n := int64(1); n <= 120; n++ {
		for _, k := range []int64{1, 2, 3, 10, 101, 1 << 50} {
			root := new(big.Int).Mul(big.NewInt(n*n), big.NewInt(k))
			s := api.Sum{{Coef: rat(-1, 3), Root: integer(root)}}
			if got, e := radical.Normal(s); e != api.OK || !slices.Equal(got, definition(s)) {
				t.Errorf("P3.2: square root of %d * %d^2: %s, %d", k, n, show(got), e)
			}
		}
	}
}

// Powers of primes times something that is prime to them, small and great.
func TestPowers(t *testing.T) {
	for _, p := range []int64{2, 3, 97, 101} {
		power := big.NewInt(1)
		for range 40 {
			for _, k := range []*big.Int{big.NewInt(1), big.NewInt(5 * 7), parse("1000000000000000000000000000057")} {
				s := api.Sum{{Coef: rat(5, 7), Root: integer(new(big.Int).Mul(power, k))}}
				if got, e := radical.Normal(s); e != api.OK || !slices.Equal(got, definition(s)) {
					t.Errorf("P3.2: square root of %s * %s: %s, %d", power, k, show(got), e)
				}
			}
			power.Mul(power, big.NewInt(p))
		}
	}
}

func TestNormalFormsOfRandomSums(t *testing.T) {
	r := rand.New(rand.NewSource(3))
	for range 2000 {
		s := random(r, 20)
		n, e := radical.Normal(s)
		if want := definition(s); e != api.OK || !slices.Equal(n, want) {
			t.Fatalf("P3.2: normal form of %s: %s instead of %s, %d", show(s), show(n), show(want), e)
		}
		if !near(n, value(s)) {
			t.Fatalf("P3.2: the normal form of %s has another value: %s", show(s), show(n))
		}
		if again, e := radical.Normal(n); e != api.OK || !slices.Equal(again, n) {
			t.Fatalf("P3.2: normal form of the normal form of %s: %s, %d", show(s), show(again), e)
		}
		if sign, e := radical.Sign(s); e != api.OK || (sign == 0) != (len(n) == 0) {
			t.Fatalf("P3.2: the sign of %s is %d, and its normal form %s", show(s), sign, show(n))
		}
	}
}

// 64 terms in all orders of their roots, of a few classes and of many.
func TestNormalFormsOfLongSums(t *testing.T) {
	r := rand.New(rand.NewSource(5))
	for _, limit := range []int64{10, 100, 1000, 1 << 40} {
		for range 30 {
			var s api.Sum
			for range api.MaxTerms {
				s = append(s, disguised(r, term(r.Int63n(9)-4, 1+r.Int63n(3), r.Int63n(limit))))
			}
			if n, e := radical.Normal(s); e != api.OK || !slices.Equal(n, definition(s)) {
				t.Fatalf("P3.2: normal form of %s: %s, %d", show(s), show(n), e)
			}
		}
	}
}
