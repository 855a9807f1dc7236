package bigint_test

import (
	"math"
	"math/big"
	"math/rand"
	"strings"
	"testing"

	"narrows/api"
	"narrows/bigint"
)

// value returns the value of an integer as the document defines it, canonical or not.
func value(a api.Int) *big.Int {
	v := new(big.Int).SetBytes([]byte(a.Mag))
	if a.Neg {
		v.Neg(v)
	}
	return v
}

// integer returns the canonical integer with a value.
func integer(v *big.Int) api.Int {
	return api.Int{Neg: v.Sign() < 0, Mag: string(v.Bytes())}
}

// power returns 2^n + d.
func power(n uint, d int64) api.Int {
	v := new(big.Int).Lsh(big.NewInt(1), n)
	return integer(v.Add(v, big.NewInt(d)))
}

// random returns an integer with at most n digits; runs of zeros and of greatest digits are frequent, because carries and quotient digits are decided there.
func random(r *rand.Rand, n int) api.Int {
	mag := make([]byte, r.Intn(n+1))
	r.Read(mag)
	for range r.Intn(4) {
		if len(mag) == 0 {
			break
		}
		from := r.Intn(len(mag))
		to := from + r.Intn(len(mag)-from+1)
		digit := byte(255 * r.Intn(2))
		for i := from; i < to; i++ {
			mag[i] = digit
		}
	}
	return integer(value(api.Int{Neg: r.Intn(2) == 0, Mag: string(mag)}))
}

// samples returns canonical integers: small ones, those at the ends of machine numbers and words, and long ones.
func samples() []api.Int {
	list := []api.Int{{}}
	for _, n := range []uint{0, 1, 7, 8, 31, 62, 63, 64, 65, 127, 128, 192, 256, 320, 1024} {
		for d := int64(-1); d <= 1; d++ {
			a := power(n, d)
			list = append(list, a, integer(new(big.Int).Neg(value(a))))
		}
	}
	r := rand.New(rand.NewSource(1))
	for _, n := range []int{2, 8, 16, 24, 40, 130, 300} {
		list = append(list, random(r, n), random(r, n), random(r, n))
	}
	return list
}

// variants returns integers with the value of a, only the first of which is canonical.
func variants(a api.Int) []api.Int {
	list := []api.Int{a}
	for _, zeros := range []int{1, 7, 8, 9, 200} {
		list = append(list, api.Int{Neg: a.Neg, Mag: strings.Repeat("\x00", zeros) + a.Mag})
	}
	if a.Mag == "" {
		list = append(list, api.Int{Neg: true}, api.Int{Neg: true, Mag: "\x00"}, api.Int{Neg: true, Mag: strings.Repeat("\x00", 17)})
	}
	return list
}

// want reports an error if an integer is not the canonical one with a value.
func want(t *testing.T, promise string, got api.Int, v *big.Int) {
	t.Helper()
	if got != integer(v) {
		t.Errorf("%s: got %v, want %s", promise, got, v)
	}
}

// floored returns the quotient of a and b, rounded down, and the remainder.
func floored(a, b *big.Int) (*big.Int, *big.Int) {
	q, r := new(big.Int).QuoRem(a, b, new(big.Int))
	if r.Sign() != 0 && r.Sign() != b.Sign() {
		q.Sub(q, big.NewInt(1))
		r.Add(r, b)
	}
	return q, r
}

// checkUnary compares all functions of one integer with the definitions.
func checkUnary(t *testing.T, a api.Int) {
	t.Helper()
	v := value(a)
	want(t, "P1.1: Neg", bigint.Neg(a), new(big.Int).Neg(v))
	if (bigint.Check(a) == api.OK) != (a == integer(v)) || bigint.Check(a) != api.OK && bigint.Check(a) != api.ErrArgument {
		t.Errorf("P1.1: Check(%v): %d", a, bigint.Check(a))
	}
	n, is := bigint.Small(a)
	if is != v.IsInt64() || is && int64(n) != v.Int64() || !is && n != 0 {
		t.Errorf("P1.1: Small(%v): %d, %t", a, n, is)
	}
	if bigint.Bits(a) != v.BitLen() {
		t.Errorf("P1.1: Bits(%v): %d", a, bigint.Bits(a))
	}
	if bigint.Print(a) != v.String() {
		t.Errorf("P1.1: Print(%v): %s", a, bigint.Print(a))
	}
	checkRoot(t, a)
}

// checkRoot compares Root with its definition.
func checkRoot(t *testing.T, a api.Int) {
	t.Helper()
	v := value(a)
	r, exact, e := bigint.Root(a)
	if v.Sign() < 0 {
		if r != (api.Int{}) || exact || e != api.ErrRange {
			t.Errorf("P1.6: Root(%v): %v, %t, %d", a, r, exact, e)
		}
		return
	}
	s := new(big.Int).Sqrt(v)
	want(t, "P1.6: Root", r, s)
	if square := new(big.Int).Mul(s, s); e != api.OK || exact != (square.Cmp(v) == 0) {
		t.Errorf("P1.6: Root(%v): %t, %d", a, exact, e)
	}
}

// checkBinary compares all functions of two integers with the definitions.
func checkBinary(t *testing.T, a, b api.Int) {
	t.Helper()
	v, w := value(a), value(b)
	want(t, "P1.1: Add", bigint.Add(a, b), new(big.Int).Add(v, w))
	want(t, "P1.1: Sub", bigint.Sub(a, b), new(big.Int).Sub(v, w))
	want(t, "P1.1: Mul", bigint.Mul(a, b), new(big.Int).Mul(v, w))
	want(t, "P1.5: Gcd", bigint.Gcd(a, b), new(big.Int).GCD(nil, nil, new(big.Int).Abs(v), new(big.Int).Abs(w)))
	if bigint.Compare(a, b) != v.Cmp(w) {
		t.Errorf("P1.8: Compare(%v, %v): %d", a, b, bigint.Compare(a, b))
	}
	checkDiv(t, a, b)
}

// checkDiv compares Div with its definition.
func checkDiv(t *testing.T, a, b api.Int) {
	t.Helper()
	v, w := value(a), value(b)
	q, r, e := bigint.Div(a, b)
	if w.Sign() == 0 {
		if q != (api.Int{}) || r != (api.Int{}) || e != api.ErrDivide {
			t.Errorf("P1.4: Div(%v, 0): %v, %v, %d", a, q, r, e)
		}
		return
	}
	quotient, rest := floored(v, w)
	want(t, "P1.4: Div", q, quotient)
	want(t, "P1.4: Div", r, rest)
	if e != api.OK {
		t.Errorf("P1.4: Div(%v, %v): %d", a, b, e)
	}
}

func TestFunctionsOfOneInteger(t *testing.T) {
	for _, a := range samples() {
		for _, x := range variants(a) {
			checkUnary(t, x)
		}
	}
}

func TestFunctionsOfTwoIntegers(t *testing.T) {
	list := samples()
	for _, a := range list {
		for _, b := range list {
			checkBinary(t, a, b)
		}
	}
}

func TestValuesThatAreNotCanonical(t *testing.T) {
	for _, a := range []api.Int{{}, bigint.Of(1), bigint.Of(-7), power(64, 0), power(130, -1)} {
		for _, b := range []api.Int{{}, bigint.Of(-1), bigint.Of(2), power(63, 1), power(130, 0)} {
			for _, x := range variants(a) {
				for _, y := range variants(b) {
					checkBinary(t, x, y)
				}
			}
		}
	}
}

func TestRandomIntegers(t *testing.T) {
	r := rand.New(rand.NewSource(2))
	for range 3000 {
		a, b := random(r, 1+r.Intn(100)), random(r, 1+r.Intn(100))
		checkUnary(t, a)
		checkBinary(t, a, b)
	}
}

func TestAnyBytes(t *testing.T) {
	for _, mag := range []string{"\xff\xfe", "text", "\x00\x00\xff\x00", "\u00e9\u4e16", strings.Repeat("\xff", 64), strings.Repeat("\x00", 300)} {
		for _, negative := range []bool{false, true} {
			a := api.Int{Neg: negative, Mag: mag}
			checkUnary(t, a)
			checkBinary(t, a, api.Int{Neg: true, Mag: "\x00\x03"})
			checkBinary(t, api.Int{Neg: true, Mag: "\x00\x03"}, a)
		}
	}
}

func TestVeryLongIntegers(t *testing.T) {
	r := rand.New(rand.NewSource(3))
	long := func(n int) api.Int {
		mag := make([]byte, n)
		r.Read(mag)
		mag[0] |= 1
		return api.Int{Neg: r.Intn(2) == 0, Mag: string(mag)}
	}
	a, b, c := long(20000), long(20000), long(7001)
	for _, x := range []api.Int{a, b, c, bigint.Mul(c, c), power(80000, -1)} {
		checkUnary(t, x)
		checkRoot(t, bigint.Neg(x))
	}
	checkBinary(t, a, b)
	checkBinary(t, a, c)
	checkBinary(t, c, a)
	checkBinary(t, bigint.Mul(a, c), bigint.Mul(b, c))
	checkBinary(t, power(80000, 0), power(40000, -1))
}

func TestOf(t *testing.T) {
	for _, n := range []int{0, 1, -1, 127, 255, 256, -256, 65535, 65536, 1 << 32, -1 << 32, math.MaxInt, math.MinInt, math.MaxInt - 1, math.MinInt + 1} {
		want(t, "P1.3: Of", bigint.Of(n), big.NewInt(int64(n)))
		if m, is := bigint.Small(bigint.Of(n)); m != n || !is {
			t.Errorf("P1.3: Small(Of(%d)): %d, %t", n, m, is)
		}
	}
}

func TestExamples(t *testing.T) {
	square := bigint.Mul(bigint.Of(1<<32), bigint.Of(1<<32))
	if bigint.Print(square) != "18446744073709551616" || bigint.Bits(square) != 65 {
		t.Error("P1.1: the square of 2^32", bigint.Print(square), bigint.Bits(square))
	}
	for _, c := range []struct{ a, b, quotient, rest int }{{-7, 2, -4, 1}, {7, -2, -4, -1}} {
		q, r, e := bigint.Div(bigint.Of(c.a), bigint.Of(c.b))
		if q != bigint.Of(c.quotient) || r != bigint.Of(c.rest) || e != api.OK {
			t.Errorf("P1.4: Div(%d, %d): %v, %v, %d", c.a, c.b, q, r, e)
		}
	}
	if r, exact, e := bigint.Root(bigint.Of(10)); r != bigint.Of(3) || exact || e != api.OK {
		t.Error("P1.6: Root(10)", r, exact, e)
	}
}
