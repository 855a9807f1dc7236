package rotation_test

import (
	"math/big"
	"math/rand"
	"strings"
	"testing"

	"narrows/api"
	"narrows/rational"
	"narrows/rotation"
)

// value returns the value of a number, canonical or not.
func value(r api.Rat) *big.Rat {
	num, den := new(big.Int).SetBytes([]byte(r.Num)), new(big.Int).SetBytes([]byte(r.Den))
	if den.Sign() == 0 {
		den.SetInt64(1)
	}
	v := new(big.Rat).SetFrac(num, den)
	if r.Neg {
		v.Neg(v)
	}
	return v
}

// number returns the canonical number with a value.
func number(v *big.Rat) api.Rat {
	r := api.Rat{Neg: v.Sign() < 0, Num: string(v.Num().Bytes())}
	if !v.IsInt() {
		r.Den = string(v.Denom().Bytes())
	}
	return r
}

// ratio returns the number n / d.
func ratio(n, d int64) api.Rat {
	return number(big.NewRat(n, d))
}

// at returns the rotation with the cosine c / d and the sine s / d.
func at(c, s, d int64) api.Rotation {
	return api.Rotation{Cos: ratio(c, d), Sin: ratio(s, d)}
}

// point returns the point with the coordinates x and y.
func point(x, y int64) api.Point {
	return api.Point{X: ratio(x, 1), Y: ratio(y, 1)}
}

// turned returns the rotation with the tangent t of half its angle, as the document defines it.
func turned(t *big.Rat) api.Rotation {
	one := big.NewRat(1, 1)
	square := new(big.Rat).Mul(t, t)
	whole := new(big.Rat).Add(one, square)
	cos := new(big.Rat).Sub(one, square)
	sin := new(big.Rat).Add(t, t)
	return api.Rotation{Cos: number(cos.Quo(cos, whole)), Sin: number(sin.Quo(sin, whole))}
}

// small returns 1 / 2^n.
func small(n uint) *big.Rat {
	return new(big.Rat).SetFrac(big.NewInt(1), new(big.Int).Lsh(big.NewInt(1), n))
}

// tangents returns the tangents of half the angles of rotations by less than a half turn, in ascending order, from 0 on. Some are very close to each other.
func tangents() []*big.Rat {
	list := []*big.Rat{new(big.Rat), small(300), small(70), small(9), big.NewRat(1, 10), big.NewRat(1, 3), big.NewRat(5, 12), big.NewRat(1, 2), big.NewRat(2, 3)}
	below, above := big.NewRat(1, 1), big.NewRat(1, 1)
	list = append(list, below.Sub(below, small(200)), big.NewRat(1, 1), above.Add(above, small(200)))
	return append(list, big.NewRat(3, 2), big.NewRat(2, 1), big.NewRat(12, 5), big.NewRat(3, 1), big.NewRat(1000, 7), new(big.Rat).Inv(small(70)), new(big.Rat).Inv(small(300)))
}

// circle returns the rotations with tangents of half their angles, and their opposites. They are in the order of their angles if the tangents are in ascending order, from 0 on.
func circle(tangents []*big.Rat) []api.Rotation {
	var list []api.Rotation
	for _, t := range tangents {
		list = append(list, turned(t))
	}
	for _, r := range list {
		list = append(list, opposite(r))
	}
	return list
}

// samples returns different rotations in the order of their angles.
func samples() []api.Rotation {
	return circle(tangents())
}

// opposite returns r and then a half turn.
func opposite(r api.Rotation) api.Rotation {
	return api.Rotation{Cos: rational.Neg(r.Cos), Sin: rational.Neg(r.Sin)}
}

// random returns a number whose numerator and denominator have at most n digits.
func random(r *rand.Rand, n int) api.Rat {
	num, den := make([]byte, r.Intn(n+1)), make([]byte, 1+r.Intn(n))
	r.Read(num)
	r.Read(den)
	return number(value(api.Rat{Neg: r.Intn(2) == 0, Num: string(num), Den: string(den)}))
}

// variants returns numbers with the value of r that are not canonical.
func variants(r api.Rat) []api.Rat {
	v := value(r)
	num, den := new(big.Int).Mul(v.Num(), big.NewInt(6)), new(big.Int).Mul(v.Denom(), big.NewInt(6))
	list := []api.Rat{
		{Neg: r.Neg, Num: "\x00" + r.Num, Den: r.Den},
		{Neg: r.Neg, Num: r.Num, Den: "\x00\x00" + r.Den},
		{Neg: r.Neg, Num: string(num.Abs(num).Bytes()), Den: string(den.Bytes())},
	}
	if r.Den == "" {
		list = append(list, api.Rat{Neg: r.Neg, Num: r.Num, Den: "\x01"})
	}
	if r.Num == "" {
		list = append(list, api.Rat{Neg: true}, api.Rat{Den: "\x09"})
	}
	return list
}

// invalid returns values that are no rotations, and why they are not.
func invalid() map[api.Rotation]api.Errno {
	list := map[api.Rotation]api.Errno{
		{}:          api.ErrRange,
		at(1, 1, 1): api.ErrRange,
		at(2, 0, 1): api.ErrRange,
		at(3, 3, 5): api.ErrRange,
		at(3, 5, 4): api.ErrRange,
		at(4, 4, 5): api.ErrRange,
		{Cos: rational.Of(1), Sin: number(small(400))}:                      api.ErrRange,
		{Cos: rational.Of(-1), Sin: number(small(400))}:                     api.ErrRange,
		{Cos: api.Rat{Num: "\x00"}, Sin: api.Rat{Num: "\x00"}}:              api.ErrArgument,
		{Cos: api.Rat{Num: "\x04", Den: "\x02"}, Sin: rational.Of(7)}:       api.ErrArgument,
		{Cos: rational.Of(7), Sin: api.Rat{Neg: true}}:                      api.ErrArgument,
		{Cos: api.Rat{Num: strings.Repeat("\xff", 99), Den: "\x00\xffabc"}}: api.ErrArgument,
	}
	for _, r := range []api.Rotation{at(1, 0, 1), at(-1, 0, 1), at(0, 1, 1), at(3, -4, 5), turned(small(70))} {
		for _, x := range variants(r.Cos) {
			list[api.Rotation{Cos: x, Sin: r.Sin}] = api.ErrArgument
		}
		for _, x := range variants(r.Sin) {
			list[api.Rotation{Cos: r.Cos, Sin: x}] = api.ErrArgument
		}
	}
	return list
}

// succeed reports an error if a call did not return OK.
func succeed(t *testing.T, call string, e api.Errno) {
	t.Helper()
	if e != api.OK {
		t.Errorf("P4.1: %s: error %d", call, e)
	}
}

// show returns the text of a rotation.
func show(r api.Rotation) string {
	return rational.Print(r.Cos) + ", " + rational.Print(r.Sin)
}

// same reports an error if a rotation is not the expected one.
func same(t *testing.T, law string, got, want api.Rotation) {
	t.Helper()
	if got != want {
		t.Errorf("%s: got %s, want %s", law, show(got), show(want))
	}
}

func TestNone(t *testing.T) {
	same(t, "P4.1: None", rotation.None(), api.Rotation{Cos: api.Rat{Num: "\x01"}})
}

func TestCheck(t *testing.T) {
	for _, r := range samples() {
		if e := rotation.Check(r); e != api.OK {
			t.Errorf("P4.1: Check(%s): %d", show(r), e)
		}
	}
	for r, why := range invalid() {
		if e := rotation.Check(r); e != why {
			t.Errorf("P4.1: Check(%#v): %d, want %d", r, e, why)
		}
	}
}

// With an error there is no other result, also where a further error applies.
func TestInvalidRotations(t *testing.T) {
	r, q, half := at(3, 4, 5), at(0, 1, 1), at(-1, 0, 1)
	for x := range invalid() {
		single := func(call string, zero bool, e api.Errno) {
			t.Helper()
			if !zero || e != api.ErrArgument {
				t.Errorf("P4.1: %s of %#v: zero %t, error %d", call, x, zero, e)
			}
		}
		s, e := rotation.Tangent(x)
		single("Tangent", s == api.Rat{}, e)
		b, e := rotation.Back(x)
		single("Back", b == api.Rotation{}, e)
		p, e := rotation.Apply(x, point(3, 7))
		single("Apply", p == api.Point{}, e)
		for _, l := range [][3]api.Rotation{{x, r, q}, {r, x, q}, {q, r, x}, {x, x, x}, {x, r, x}, {half, x, r}, {x, half, r}, {x, x, r}, {r, x, x}} {
			in, e := rotation.Between(l[0], l[1], l[2])
			single("Between", !in, e)
			if l[0] != x && l[1] != x {
				continue
			}
			ab, e := rotation.Then(l[0], l[1])
			single("Then", ab == api.Rotation{}, e)
			n, e := rotation.Compare(l[0], l[1])
			single("Compare", n == 0, e)
			m, e := rotation.Middle(l[0], l[1])
			single("Middle", m == api.Rotation{}, e)
			c, e := rotation.Corner(l[0], l[1], point(3, 7))
			single("Corner", c == api.Point{}, e)
		}
	}
}

func TestOf(t *testing.T) {
	for _, s := range tangents() {
		for _, v := range []*big.Rat{s, new(big.Rat).Neg(s)} {
			same(t, "P4.1: Of("+v.RatString()+")", rotation.Of(number(v)), turned(v))
			for _, x := range variants(number(v)) {
				same(t, "P4.1: Of, not canonical", rotation.Of(x), turned(v))
			}
		}
	}
	r := rand.New(rand.NewSource(1))
	for range 1000 {
		s := random(r, 1+r.Intn(20))
		same(t, "P4.1: Of("+rational.Print(s)+")", rotation.Of(s), turned(value(s)))
	}
	same(t, "P4.1: Of(1/2)", rotation.Of(ratio(1, 2)), at(3, 4, 5))
}

func TestTangent(t *testing.T) {
	for _, r := range samples() {
		s, e := rotation.Tangent(r)
		if r == at(-1, 0, 1) {
			if s != (api.Rat{}) || e != api.ErrDegenerate {
				t.Errorf("P4.1: Tangent of a half turn: %s, %d", rational.Print(s), e)
			}
			continue
		}
		succeed(t, "Tangent", e)
		want := value(r.Cos)
		want.Quo(value(r.Sin), want.Add(want, big.NewRat(1, 1)))
		if s != number(want) {
			t.Errorf("P4.1: Tangent(%s): %s", show(r), rational.Print(s))
		}
		same(t, "P4.4: Of(Tangent(r))", rotation.Of(s), r)
	}
}

func TestOfAndTangentAreInverse(t *testing.T) {
	r := rand.New(rand.NewSource(2))
	for range 1000 {
		s := random(r, 1+r.Intn(20))
		x := rotation.Of(s)
		back, e := rotation.Tangent(x)
		succeed(t, "Tangent", e)
		if back != s {
			t.Errorf("P4.4: Tangent(Of(%s)): %s", rational.Print(s), rational.Print(back))
		}
		inverse, e := rotation.Back(x)
		succeed(t, "Back", e)
		same(t, "P4.4: Of(-t)", rotation.Of(rational.Neg(s)), inverse)
	}
}

func TestThen(t *testing.T) {
	for _, a := range samples() {
		for _, b := range samples() {
			ab, e := rotation.Then(a, b)
			succeed(t, "Then", e)
			same(t, "P4.1: Then", ab, product(a, b))
		}
	}
	twice, e := rotation.Then(at(3, 4, 5), at(3, 4, 5))
	succeed(t, "Then", e)
	same(t, "P4.1: Of(1/2) twice", twice, at(-7, 24, 25))
}

// product returns a and then b: the product of complex numbers.
func product(a, b api.Rotation) api.Rotation {
	ac, as, bc, bs := value(a.Cos), value(a.Sin), value(b.Cos), value(b.Sin)
	cos, sin := new(big.Rat).Mul(ac, bc), new(big.Rat).Mul(ac, bs)
	return api.Rotation{Cos: number(cos.Sub(cos, ac.Mul(as, bs))), Sin: number(sin.Add(sin, as.Mul(as, bc)))}
}

func TestGroup(t *testing.T) {
	r, list := rand.New(rand.NewSource(3)), samples()
	some := func() api.Rotation { return list[r.Intn(len(list))] }
	then := func(a, b api.Rotation) api.Rotation {
		ab, e := rotation.Then(a, b)
		succeed(t, "Then", e)
		return ab
	}
	for range 2000 {
		a, b, c := some(), some(), rotation.Of(random(r, 9))
		same(t, "P4.2: a, b", then(a, b), then(b, a))
		same(t, "P4.2: a, b, c", then(then(a, b), c), then(a, then(b, c)))
		same(t, "P4.2: a, None", then(a, rotation.None()), a)
		same(t, "P4.2: None, c", then(rotation.None(), c), c)
		inverse, e := rotation.Back(a)
		succeed(t, "Back", e)
		same(t, "P4.2: a, Back(a)", then(a, inverse), rotation.None())
		same(t, "P4.2: Back(a), a", then(inverse, a), rotation.None())
		if rotation.Check(then(a, c)) != api.OK || rotation.Check(inverse) != api.OK {
			t.Errorf("P4.1: the results for %s and %s are not valid", show(a), show(c))
		}
	}
}

func TestBack(t *testing.T) {
	for _, r := range samples() {
		b, e := rotation.Back(r)
		succeed(t, "Back", e)
		same(t, "P4.1: Back", b, api.Rotation{Cos: r.Cos, Sin: number(new(big.Rat).Neg(value(r.Sin)))})
	}
}
