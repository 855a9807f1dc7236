package radical_test

import (
	"math"
	"math/big"
	"math/rand"
	"slices"
	"strings"
	"testing"

	"narrows/api"
	"narrows/bigint"
	"narrows/radical"
	"narrows/rational"
)

// integer returns the canonical integer with a value.
func integer(v *big.Int) api.Int {
	return api.Int{Neg: v.Sign() < 0, Mag: string(v.Bytes())}
}

// number returns the canonical number with a value.
func number(v *big.Rat) api.Rat {
	r := api.Rat{Neg: v.Sign() < 0, Num: string(v.Num().Bytes())}
	if !v.IsInt() {
		r.Den = string(v.Denom().Bytes())
	}
	return r
}

// valueOf returns the value of an integer, canonical or not.
func valueOf(a api.Int) *big.Int {
	v := new(big.Int).SetBytes([]byte(a.Mag))
	if a.Neg {
		v.Neg(v)
	}
	return v
}

// ratioOf returns the value of a number, canonical or not.
func ratioOf(r api.Rat) *big.Rat {
	den := new(big.Int).SetBytes([]byte(r.Den))
	if den.Sign() == 0 {
		den.SetInt64(1)
	}
	return new(big.Rat).SetFrac(valueOf(api.Int{Neg: r.Neg, Mag: r.Num}), den)
}

// rat returns the number n / d.
func rat(n, d int64) api.Rat {
	return number(big.NewRat(n, d))
}

// term returns n / d times the square root of root.
func term(n, d, root int64) api.Term {
	return api.Term{Coef: rat(n, d), Root: integer(big.NewInt(root))}
}

// sum returns the sum with integers as Coefs; its arguments are Coefs and roots in turn.
func sum(numbers ...int64) api.Sum {
	var s api.Sum
	for pair := range slices.Chunk(numbers, 2) {
		s = append(s, term(pair[0], 1, pair[1]))
	}
	return s
}

// roots returns the square root of each number as a sum.
func roots(numbers ...int64) api.Sum {
	var s api.Sum
	for _, n := range numbers {
		s = append(s, term(1, 1, n))
	}
	return s
}

// isPrime returns whether n is a prime.
func isPrime(n int64) bool {
	for d := int64(2); d*d <= n; d++ {
		if n%d == 0 {
			return false
		}
	}
	return n > 1
}

// many returns the sum of the square roots of n primes from a number on.
func many(n int, from int64) api.Sum {
	var s api.Sum
	for ; len(s) < n; from++ {
		if isPrime(from) {
			s = append(s, term(1, 1, from))
		}
	}
	return s
}

// parse returns the integer with a text.
func parse(s string) *big.Int {
	v, _ := new(big.Int).SetString(s, 10)
	return v
}

// random returns a valid sum whose roots share classes more often than those of random numbers. Some of its numbers are not canonical.
func random(r *rand.Rand, terms int) api.Sum {
	factors := []int64{1, 2, 3, 4, 6, 9, 49, 97, 97 * 97, 101, 101 * 101, 103 * 103, 107 * 107, 1<<62 + 1}
	var s api.Sum
	for range r.Intn(terms + 1) {
		root := big.NewInt(1)
		for range 1 + r.Intn(4) {
			root.Mul(root, big.NewInt(factors[r.Intn(len(factors))]))
		}
		if r.Intn(10) == 0 {
			root.SetInt64(0)
		}
		t := api.Term{Coef: rat(int64(r.Intn(13)-6), int64(1+r.Intn(6))), Root: integer(root)}
		s = append(s, disguised(r, t))
	}
	return s
}

// disguised returns a term with the values of t whose numbers are perhaps not canonical.
func disguised(r *rand.Rand, t api.Term) api.Term {
	switch r.Intn(4) {
	case 0:
		v := ratioOf(t.Coef)
		t.Coef.Num = string(new(big.Int).Mul(v.Num(), big.NewInt(12)).Bytes())
		t.Coef.Den = string(new(big.Int).Mul(v.Denom(), big.NewInt(12)).Bytes())
	case 1:
		t.Root.Mag = strings.Repeat("\x00", 1+r.Intn(9)) + t.Root.Mag
		t.Root.Neg = t.Root.Neg || valueOf(t.Root).Sign() == 0
	}
	return t
}

// precision is that of the values with which results are compared, in bits.
const precision = 800

// real returns a real number with the precision of the tests.
func real(v *big.Rat) *big.Float {
	return new(big.Float).SetPrec(precision).SetRat(v)
}

// value returns the value of a sum, almost.
func value(s api.Sum) *big.Float {
	total := real(new(big.Rat))
	for _, t := range s {
		root := real(new(big.Rat).SetInt(valueOf(t.Root)))
		total.Add(total, root.Mul(root.Sqrt(root), real(ratioOf(t.Coef))))
	}
	return total
}

// show returns a sum term by term, for messages.
func show(s api.Sum) string {
	var terms []string
	for _, t := range s {
		terms = append(terms, ratioOf(t.Coef).RatString()+"*sqrt("+valueOf(t.Root).String()+")")
	}
	return "[" + strings.Join(terms, ", ") + "]"
}

// near returns whether a sum has almost a value.
func near(s api.Sum, v *big.Float) bool {
	difference := value(s)
	difference.Sub(difference, v)
	return difference.Sign() == 0 || difference.MantExp(nil) < -precision/2
}

// fault is a sum that is not valid, with the error of Check.
type fault struct {
	s    api.Sum
	want api.Errno
}

// invalid returns sums that are not valid, by what is wrong with them.
func invalid() map[string]fault {
	negative := api.Term{Coef: rat(1, 1), Root: integer(big.NewInt(-1))}
	padded := api.Term{Root: api.Int{Neg: true, Mag: "\x00\x05"}}
	return map[string]fault{
		"65 terms":                        {many(api.MaxTerms+1, 2), api.ErrLimit},
		"65 terms 0":                      {make(api.Sum, api.MaxTerms+1), api.ErrLimit},
		"65 terms of one class":           {slices.Repeat(roots(2), api.MaxTerms+1), api.ErrLimit},
		"1000 terms, one of them invalid": {append(many(999, 2), negative), api.ErrLimit},
		"negative root":                   {api.Sum{negative}, api.ErrRange},
		"negative root at the end":        {append(many(api.MaxTerms-1, 2), negative), api.ErrRange},
		"negative root with the Coef 0":   {api.Sum{padded}, api.ErrRange},
	}
}

func TestCheck(t *testing.T) {
	zero := api.Int{Neg: true, Mag: "\x00\x00"}
	for i, s := range []api.Sum{nil, {}, roots(2), many(api.MaxTerms, 2), make(api.Sum, api.MaxTerms), {{Coef: rat(1, 2), Root: zero}}, {{Coef: api.Rat{Neg: true, Num: "\x00", Den: "\x00"}, Root: api.Int{Mag: "\x00\x09"}}}} {
		if e := radical.Check(s); e != api.OK {
			t.Errorf("P3.1: Check, case %d: %d", i, e)
		}
	}
	for name, c := range invalid() {
		if e := radical.Check(c.s); e != c.want {
			t.Errorf("P3.1: Check, %s: %d", name, e)
		}
	}
}

func TestInvalidSums(t *testing.T) {
	for name, c := range invalid() {
		s := c.s
		for i, f := range []func() (api.Sum, api.Errno){
			func() (api.Sum, api.Errno) { return radical.Normal(s) },
			func() (api.Sum, api.Errno) { return radical.Add(s, nil) },
			func() (api.Sum, api.Errno) { return radical.Add(many(api.MaxTerms, 1000), s) },
			func() (api.Sum, api.Errno) { return radical.Scale(s, rat(1, 2)) },
			func() (api.Sum, api.Errno) { return radical.Scale(s, rat(0, 1)) },
		} {
			if r, e := f(); len(r) != 0 || e != api.ErrArgument {
				t.Errorf("P3.1: %s, function %d: %s, %d", name, i, show(r), e)
			}
		}
		for i, f := range []func() (int, api.Errno){
			func() (int, api.Errno) { return radical.Sign(s) },
			func() (int, api.Errno) { return radical.Compare(s, roots(3)) },
			func() (int, api.Errno) { return radical.Compare(roots(3), s) },
			func() (int, api.Errno) { return radical.Compare(s, s) },
		} {
			if n, e := f(); n != 0 || e != api.ErrArgument {
				t.Errorf("P3.1: %s, comparison %d: %d, %d", name, i, n, e)
			}
		}
		for _, bits := range []int{-1, 0, 5, 4097} {
			if lower, upper, e := radical.Bounds(s, bits); lower != (api.Rat{}) || upper != (api.Rat{}) || e != api.ErrArgument {
				t.Errorf("P3.1: Bounds, %s: %d", name, e)
			}
		}
		if text, e := radical.Print(s); text != "" || e != api.ErrArgument {
			t.Errorf("P3.1: Print, %s: %q, %d", name, text, e)
		}
	}
}

func TestOf(t *testing.T) {
	for _, c := range []struct {
		r    api.Rat
		want api.Sum
	}{
		{api.Rat{}, nil},
		{api.Rat{Neg: true, Num: "\x00", Den: "\x05"}, nil},
		{rat(5, 1), sum(5, 1)},
		{rat(-7, 3), api.Sum{term(-7, 3, 1)}},
		{rat(10201, 4), api.Sum{term(10201, 4, 1)}},
		{api.Rat{Neg: true, Num: "\x00\x06", Den: "\x04"}, api.Sum{term(-3, 2, 1)}},
		{api.Rat{Num: "\x06", Den: "\x00"}, sum(6, 1)},
	} {
		if s := radical.Of(c.r); !slices.Equal(s, c.want) {
			t.Errorf("P3.1: Of(%s): %s", rational.Print(c.r), show(s))
		}
	}
}

func TestRoot(t *testing.T) {
	for _, c := range []struct {
		r    api.Rat
		want api.Sum
	}{
		{rat(3, 4), api.Sum{term(1, 2, 3)}},
		{rat(4, 9), api.Sum{term(2, 3, 1)}},
		{rat(8, 1), sum(2, 2)},
		{rat(1, 2), api.Sum{term(1, 2, 2)}},
		{rat(7, 12), api.Sum{term(1, 6, 21)}},
		{rat(1, 10201), api.Sum{term(1, 10201, 10201)}},
		{rat(10201, 1), sum(1, 10201)},
		{rat(2*97*97, 1), sum(97, 2)},
		{rat(0, 1), nil},
		{api.Rat{Neg: true, Num: "\x00"}, nil},
		{api.Rat{Num: "\x06", Den: "\x08"}, api.Sum{term(1, 2, 3)}},
		{api.Rat{Num: "\x00\x08", Den: "\x00"}, sum(2, 2)},
		// The common divisor 101 does not belong to the numerator and the denominator of the value.
		{api.Rat{Num: "\x01\x2f", Den: "\x65"}, sum(1, 3)},
	} {
		if s, e := radical.Root(c.r); e != api.OK || !slices.Equal(s, c.want) {
			t.Errorf("P3.1: Root(%s): %s, %d", rational.Print(c.r), show(s), e)
		}
	}
	for _, r := range []api.Rat{rat(-1, 1), rat(-1, 1<<62), {Neg: true, Num: "\x00\x03", Den: "\x03"}} {
		if s, e := radical.Root(r); len(s) != 0 || e != api.ErrRange {
			t.Errorf("P3.1: Root(%s): %s, %d", rational.Print(r), show(s), e)
		}
	}
}

func TestAddHasALimit(t *testing.T) {
	first, second := many(api.MaxTerms, 2), many(api.MaxTerms, 1000)
	if s, e := radical.Add(first, first); e != api.OK || len(s) != api.MaxTerms || s[0] != term(2, 1, 2) {
		t.Error("P3.1: twice 64 terms", show(s), e)
	}
	if s, e := radical.Add(first, second); e != api.ErrLimit || len(s) != 0 {
		t.Error("P3.1: 128 terms", show(s), e)
	}
	if s, e := radical.Add(first, roots(1)); e != api.ErrLimit || len(s) != 0 {
		t.Error("P3.1: 65 terms", show(s), e)
	}
	if s, e := radical.Add(first[:63], roots(8, 1, 18)); e != api.OK || len(s) != 64 || s[1] != term(6, 1, 2) {
		t.Error("P3.1: 66 terms of 64 classes", show(s), e)
	}
	if s, e := radical.Add(first, sum(-1, 2, 1, 1)); e != api.OK || len(s) != 64 || s[0] != term(1, 1, 1) {
		t.Error("P3.1: 65 terms, of which one is 0", show(s), e)
	}
}

func TestCompareHasNoLimit(t *testing.T) {
	first, second := many(api.MaxTerms, 2), many(api.MaxTerms, 1000)
	if n, e := radical.Compare(first, second); n != -1 || e != api.OK {
		t.Error("P3.1: Compare of 64 terms each", n, e)
	}
	if n, e := radical.Compare(second, first); n != 1 || e != api.OK {
		t.Error("P3.1: Compare of 64 terms each", n, e)
	}
}

// What is added together is normalized together: a term that has been cancelled still has its class.
func TestTermsAreTakenTogether(t *testing.T) {
	nothing, square := sum(1, 2, -1, 2), sum(3, 2*10201)
	if s, e := radical.Add(nothing, square); e != api.OK || !slices.Equal(s, sum(303, 2)) {
		t.Error("P3.1: Add", show(s), e)
	}
	if s, e := radical.Scale(append(nothing, square...), rat(1, 3)); e != api.OK || !slices.Equal(s, sum(101, 2)) {
		t.Error("P3.1: Scale", show(s), e)
	}
	if s, e := radical.Scale(append(nothing, square...), rat(0, 1)); e != api.OK || len(s) != 0 {
		t.Error("P3.1: Scale by 0", show(s), e)
	}
}

func TestArgumentsRemain(t *testing.T) {
	r := rand.New(rand.NewSource(9))
	for range 300 {
		a, b := random(r, 12), random(r, 12)
		oldA, oldB := slices.Clone(a), slices.Clone(b)
		normal, _ := radical.Normal(a)
		again, _ := radical.Normal(normal)
		total, _ := radical.Add(a, b)
		scaled, _ := radical.Scale(a, rat(1, 1))
		radical.Sign(a)
		radical.Compare(a, b)
		radical.Bounds(a, 9)
		radical.Print(a)
		kept := slices.Clone(normal)
		for _, result := range []api.Sum{again, total, scaled} {
			for i := range result {
				result[i] = api.Term{}
			}
		}
		if !slices.Equal(a, oldA) || !slices.Equal(b, oldB) || !slices.Equal(normal, kept) {
			t.Fatalf("P3.1: arguments are changed: %s, %s", show(oldA), show(oldB))
		}
	}
}

func TestGreatNumbers(t *testing.T) {
	power := new(big.Int).Lsh(big.NewInt(1), 100001)
	s := api.Sum{{Coef: rat(1, 1), Root: integer(power)}}
	want := api.Sum{{Coef: number(new(big.Rat).SetInt(new(big.Int).Lsh(big.NewInt(1), 50000))), Root: bigint.Of(2)}}
	if n, e := radical.Normal(s); e != api.OK || !slices.Equal(n, want) {
		t.Error("P3.1: the square root of 2^100001", e)
	}
	if n, e := radical.Compare(s, want); n != 0 || e != api.OK {
		t.Error("P3.1: the square root of 2^100001", n, e)
	}
	one := api.Sum{{Coef: rat(1, 1), Root: integer(new(big.Int).Add(power, big.NewInt(1)))}}
	if n, e := radical.Compare(s, one); n != -1 || e != api.OK {
		t.Error("P3.1: the square root of 2^100001 + 1", n, e)
	}
	for _, bits := range []int{math.MinInt, math.MaxInt} {
		if _, _, e := radical.Bounds(s, bits); e != api.ErrRange {
			t.Error("P3.1: Bounds", bits, e)
		}
	}
	if r, e := radical.Root(rational.Of(math.MaxInt)); e != api.OK || !near(r, new(big.Float).SetPrec(precision).Sqrt(real(big.NewRat(math.MaxInt, 1)))) {
		t.Error("P3.1: the square root of the greatest int", r, e)
	}
}
