package rational_test

import (
	"math"
	"math/big"
	"math/rand"
	"strings"
	"testing"

	"narrows/api"
	"narrows/bigint"
	"narrows/rational"
)

// zero is the canonical number with the value 0.
var zero = api.Rat{}

// natural returns the number with base-256 digits.
func natural(digits string) *big.Int {
	return new(big.Int).SetBytes([]byte(digits))
}

// value returns the value of a number as the document defines it, canonical or not.
func value(r api.Rat) *big.Rat {
	den := natural(r.Den)
	if den.Sign() == 0 {
		den.SetInt64(1)
	}
	v := new(big.Rat).SetFrac(natural(r.Num), den)
	if r.Neg {
		v.Neg(v)
	}
	return v
}

// number returns the canonical number with a value.
func number(v *big.Rat) api.Rat {
	r := api.Rat{Neg: v.Sign() < 0, Num: string(v.Num().Bytes())}
	if !v.IsInt() {
		r.Den = string(v.Denom().Bytes())
	}
	return r
}

// integer returns the canonical integer with a value.
func integer(v *big.Int) api.Int {
	return api.Int{Neg: v.Sign() < 0, Mag: string(v.Bytes())}
}

// power returns 2^n + d.
func power(n uint, d int64) *big.Int {
	v := new(big.Int).Lsh(big.NewInt(1), n)
	return v.Add(v, big.NewInt(d))
}

// over returns the number n / d.
func over(n, d *big.Int) api.Rat {
	return number(new(big.Rat).SetFrac(n, d))
}

// ratio returns the number n / d.
func ratio(n, d int64) api.Rat {
	return number(big.NewRat(n, d))
}

// random returns a number whose numerator and denominator have at most n digits.
func random(r *rand.Rand, n int) api.Rat {
	num, den := make([]byte, r.Intn(n+1)), make([]byte, 1+r.Intn(n))
	r.Read(num)
	r.Read(den)
	return number(value(api.Rat{Neg: r.Intn(2) == 0, Num: string(num), Den: string(den)}))
}

// samples returns canonical numbers: small ones, those at which products and sums of machine integers end, and long ones.
func samples() []api.Rat {
	list := []api.Rat{zero, ratio(1, 1), ratio(-1, 1), ratio(3, 2), ratio(-3, 2), ratio(1, 3), ratio(-5, 7), ratio(6, 255), ratio(256, 257), ratio(-1000, 999)}
	for _, n := range []uint{8, 30, 31, 32, 61, 62, 63, 64, 65, 128} {
		for d := int64(-1); d <= 1; d++ {
			v := power(n, d)
			list = append(list, over(v, big.NewInt(1)), over(big.NewInt(-1), v), over(v, power(31, 3)))
		}
		list = append(list, over(new(big.Int).Neg(power(n, 0)), big.NewInt(1)), over(power(31, -1), power(n, 3)), over(power(n, 1), power(n, -1)))
	}
	r := rand.New(rand.NewSource(1))
	for _, n := range []int{1, 2, 4, 7, 8, 9, 16, 40, 100} {
		list = append(list, random(r, n), random(r, n))
	}
	return list
}

// expanded returns numbers with the value of r that have a common factor k.
func expanded(r api.Rat, k *big.Int) api.Rat {
	v := value(r)
	num, den := new(big.Int).Mul(v.Num(), k), new(big.Int).Mul(v.Denom(), k)
	return api.Rat{Neg: r.Neg, Num: string(num.Bytes()), Den: string(den.Bytes())}
}

// variants returns numbers with the value of r that are not canonical.
func variants(r api.Rat) []api.Rat {
	list := []api.Rat{
		{Neg: r.Neg, Num: "\x00" + r.Num, Den: r.Den},
		{Neg: r.Neg, Num: r.Num, Den: "\x00" + r.Den},
		{Neg: r.Neg, Num: strings.Repeat("\x00", 9) + r.Num, Den: strings.Repeat("\x00", 20) + r.Den},
		expanded(r, big.NewInt(2)), expanded(r, big.NewInt(30)), expanded(r, power(40, 7)), expanded(r, power(70, 1)),
	}
	if r.Den == "" {
		list = append(list, api.Rat{Neg: r.Neg, Num: r.Num, Den: "\x01"}, api.Rat{Neg: r.Neg, Num: r.Num, Den: "\x00\x00\x01"}, api.Rat{Neg: r.Neg, Num: "\x00" + r.Num, Den: "\x00\x00\x00"})
	}
	if r.Num == "" {
		list = append(list, api.Rat{Neg: true}, api.Rat{Den: "\x07"}, api.Rat{Neg: true, Num: "\x00", Den: "\x01\x00"}, api.Rat{Den: "\x01" + strings.Repeat("\x00", 30)})
	}
	return list
}

// want reports an error if a number is not the canonical one with a value.
func want(t *testing.T, promise string, got api.Rat, v *big.Rat) {
	t.Helper()
	if got != number(v) {
		t.Errorf("%s: got %#v, want %s", promise, got, v)
	}
}

// wantInt reports an error if an integer is not the canonical one with a value.
func wantInt(t *testing.T, promise string, got api.Int, v *big.Int) {
	t.Helper()
	if got != integer(v) {
		t.Errorf("%s: got %#v, want %s", promise, got, v)
	}
}

// checkUnary compares the functions of one number with their definitions.
func checkUnary(t *testing.T, r api.Rat) {
	t.Helper()
	v := value(r)
	want(t, "P2.1: Neg", rational.Neg(r), new(big.Rat).Neg(v))
	if s := rational.Sign(r); s != v.Sign() {
		t.Errorf("P2.1: Sign(%#v): %d", r, s)
	}
	expected := api.ErrArgument
	if r == number(v) {
		expected = api.OK
	}
	if e := rational.Check(r); e != expected {
		t.Errorf("P2.6: Check(%#v): %d", r, e)
	}
	num, den := rational.Parts(r)
	wantInt(t, "P2.1: the numerator", num, v.Num())
	wantInt(t, "P2.1: the denominator", den, v.Denom())
	floor := new(big.Int).Div(v.Num(), v.Denom())
	wantInt(t, "P2.4: Floor", rational.Floor(r), floor)
	if !v.IsInt() {
		floor.Add(floor, big.NewInt(1))
	}
	wantInt(t, "P2.4: Ceil", rational.Ceil(r), floor)
	if s := rational.Print(r); s != v.RatString() {
		t.Errorf("P2.7: Print(%#v): %s", r, s)
	}
}

// checkBinary compares the functions of two numbers with their definitions.
func checkBinary(t *testing.T, a, b api.Rat) {
	t.Helper()
	v, w := value(a), value(b)
	want(t, "P2.1: Add", rational.Add(a, b), new(big.Rat).Add(v, w))
	want(t, "P2.1: Sub", rational.Sub(a, b), new(big.Rat).Sub(v, w))
	want(t, "P2.1: Mul", rational.Mul(a, b), new(big.Rat).Mul(v, w))
	if c := rational.Compare(a, b); c != v.Cmp(w) {
		t.Errorf("P2.3: Compare(%#v, %#v): %d", a, b, c)
	}
	q, e := rational.Quo(a, b)
	if w.Sign() == 0 {
		if q != zero || e != api.ErrDivide {
			t.Errorf("P2.1: Quo(%#v, %#v): %#v, %d", a, b, q, e)
		}
		return
	}
	want(t, "P2.1: Quo", q, new(big.Rat).Quo(v, w))
	if e != api.OK {
		t.Errorf("P2.1: Quo(%#v, %#v): %d", a, b, e)
	}
}

func TestFunctionsOfOneNumber(t *testing.T) {
	for _, r := range samples() {
		checkUnary(t, r)
		for _, x := range variants(r) {
			checkUnary(t, x)
		}
	}
}

func TestFunctionsOfTwoNumbers(t *testing.T) {
	list := samples()
	for _, a := range list {
		for _, b := range list {
			checkBinary(t, a, b)
		}
	}
}

func TestNumbersThatAreNotCanonical(t *testing.T) {
	list := []api.Rat{zero, ratio(1, 1), ratio(-3, 2), ratio(2, 3), over(power(62, 1), power(31, -1)), over(power(70, 0), power(64, 1))}
	for _, a := range list {
		for _, b := range list {
			for _, x := range variants(a) {
				checkBinary(t, x, b)
				checkBinary(t, b, x)
				for _, y := range variants(b) {
					checkBinary(t, x, y)
				}
			}
		}
	}
}

func TestRandomNumbers(t *testing.T) {
	r := rand.New(rand.NewSource(2))
	for range 5000 {
		a, b := random(r, 1+r.Intn(24)), random(r, 1+r.Intn(24))
		checkUnary(t, a)
		checkBinary(t, a, b)
	}
}

func TestAnyBytes(t *testing.T) {
	list := []string{"", "\x00", "\x00\x00", "\x01", "\xff\xfe", "text", "\x00\x00\xff\x00", "\u00e9\u4e16", strings.Repeat("\xff", 64), strings.Repeat("\x00", 300)}
	for _, num := range list {
		for _, den := range list {
			for _, negative := range []bool{false, true} {
				r := api.Rat{Neg: negative, Num: num, Den: den}
				checkUnary(t, r)
				checkBinary(t, r, api.Rat{Neg: true, Num: "\x00\x06", Den: "\x04"})
				checkBinary(t, api.Rat{Neg: true, Num: "\x00\x06", Den: "\x04"}, r)
			}
		}
	}
}

func TestVeryLongNumbers(t *testing.T) {
	r := rand.New(rand.NewSource(3))
	a, b, c := random(r, 9000), random(r, 9000), random(r, 3000)
	for _, x := range []api.Rat{a, expanded(b, power(9001, 3)), over(power(80000, 1), power(80000, -1))} {
		checkUnary(t, x)
		checkBinary(t, x, c)
		checkBinary(t, c, x)
	}
	checkBinary(t, a, b)
	checkBinary(t, a, rational.Neg(a))
}

func TestOf(t *testing.T) {
	for _, n := range []int{0, 1, -1, 255, 256, -256, 65536, 1 << 31, 1 << 62, math.MaxInt, math.MinInt, math.MaxInt - 1, math.MinInt + 1} {
		want(t, "P2.1: Of", rational.Of(n), new(big.Rat).SetInt64(int64(n)))
	}
}

func TestRatio(t *testing.T) {
	list := []int{1, -1, 2, 6, -4, 255, 256, -1000, 1 << 31, 1 << 62, math.MaxInt, math.MinInt, math.MaxInt - 1, math.MinInt + 1}
	for _, d := range list {
		for _, n := range append(list, 0) {
			r, e := rational.Ratio(n, d)
			want(t, "P2.1: Ratio", r, new(big.Rat).SetFrac64(int64(n), int64(d)))
			if e != api.OK {
				t.Errorf("P2.1: Ratio(%d, %d): %d", n, d, e)
			}
		}
		if r, e := rational.Ratio(d, 0); r != zero || e != api.ErrDivide {
			t.Errorf("P2.1: Ratio(%d, 0): %#v, %d", d, r, e)
		}
	}
	if r, e := rational.Ratio(0, 0); r != zero || e != api.ErrDivide {
		t.Errorf("P2.1: Ratio(0, 0): %#v, %d", r, e)
	}
}

func TestNew(t *testing.T) {
	zeros := []api.Int{{}, {Neg: true}, {Mag: "\x00"}, {Neg: true, Mag: strings.Repeat("\x00", 17)}}
	list := append(zeros, bigint.Of(1), bigint.Of(-6), bigint.Of(math.MinInt), api.Int{Mag: "\x00\x09"}, api.Int{Neg: true, Mag: strings.Repeat("\x00", 8) + "\x0f"}, integer(power(64, 0)), integer(power(200, -1)), api.Int{Neg: true, Mag: "\x00" + strings.Repeat("\x0f", 40)})
	for i, d := range list {
		for _, n := range list {
			r, e := rational.New(n, d)
			if i < len(zeros) {
				if r != zero || e != api.ErrDivide {
					t.Errorf("P2.1: New(%#v, %#v): %#v, %d", n, d, r, e)
				}
				continue
			}
			want(t, "P2.1: New", r, value(api.Rat{Neg: n.Neg != d.Neg, Num: n.Mag, Den: d.Mag}))
			if e != api.OK {
				t.Errorf("P2.1: New(%#v, %#v): %d", n, d, e)
			}
		}
	}
}

func TestCheck(t *testing.T) {
	for _, r := range samples() {
		if e := rational.Check(r); e != api.OK {
			t.Errorf("P2.6: Check(%#v): %d", r, e)
		}
		for _, x := range variants(r) {
			if e := rational.Check(x); e != api.ErrArgument {
				t.Errorf("P2.6: Check(%#v): %d", x, e)
			}
		}
	}
	for _, r := range []api.Rat{{Num: "\x02", Den: "\x00"}, {Num: "\x02", Den: "\x01"}, {Num: "\x02", Den: "\x04"}, {Den: "\x02"}, {Neg: true}, {Num: "\x00"}, {Neg: true, Num: "\x00\x01"}, {Num: "\x01", Den: "\x00\x02"}} {
		if e := rational.Check(r); e != api.ErrArgument {
			t.Errorf("P2.6: Check(%#v): %d", r, e)
		}
	}
}

func TestExamples(t *testing.T) {
	r, e := rational.Ratio(6, -4)
	if r != (api.Rat{Neg: true, Num: "\x03", Den: "\x02"}) || e != api.OK {
		t.Errorf("P2.1: Ratio(6, -4): %#v, %d", r, e)
	}
	if rational.Print(r) != "-3/2" || rational.Floor(r) != bigint.Of(-2) || rational.Ceil(r) != bigint.Of(-1) {
		t.Errorf("P2.4: %s: %#v, %#v", rational.Print(r), rational.Floor(r), rational.Ceil(r))
	}
	third := ratio(1, 3)
	if s, e := rational.Simplest(third, ratio(2, 5)); s != third || e != api.OK {
		t.Errorf("P2.5: Simplest(1/3, 2/5): %#v, %d", s, e)
	}
	if s, e := rational.Simplest(ratio(5, 17), ratio(6, 17)); s != third || e != api.OK {
		t.Errorf("P2.5: Simplest(5/17, 6/17): %#v, %d", s, e)
	}
}
