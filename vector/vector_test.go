package vector_test

import (
	"math"
	"math/big"
	"math/rand"
	"testing"

	"narrows/api"
	"narrows/vector"
)

// value returns the value of a number, canonical or not.
func value(r api.Rat) *big.Rat {
	num, den := new(big.Int).SetBytes([]byte(r.Num)), new(big.Int).SetBytes([]byte(r.Den))
	if den.Sign() == 0 {
		den.SetInt64(1)
	}
	v := new(big.Rat).SetFrac(num, den)
	if r.Neg {
		v.Neg(v)
	}
	return v
}

// number returns the canonical number with a value.
func number(v *big.Rat) api.Rat {
	r := api.Rat{Neg: v.Sign() < 0, Num: string(v.Num().Bytes())}
	if !v.IsInt() {
		r.Den = string(v.Denom().Bytes())
	}
	return r
}

// ratio returns the number n / d.
func ratio(n, d int64) api.Rat {
	return number(big.NewRat(n, d))
}

// point returns the point with the coordinates x and y.
func point(x, y int64) api.Point {
	return api.Point{X: ratio(x, 1), Y: ratio(y, 1)}
}

// power returns 2^n + add.
func power(n uint, add int64) *big.Rat {
	v := new(big.Int).Lsh(big.NewInt(1), n)
	return new(big.Rat).SetInt(v.Add(v, big.NewInt(add)))
}

// variants returns numbers with the value of r that are not canonical.
func variants(r api.Rat) []api.Rat {
	v := value(r)
	num, den := new(big.Int).Mul(v.Num(), big.NewInt(6)), new(big.Int).Mul(v.Denom(), big.NewInt(6))
	list := []api.Rat{
		{Neg: r.Neg, Num: "\x00" + r.Num, Den: r.Den},
		{Neg: r.Neg, Num: r.Num, Den: "\x00\x00" + r.Den},
		{Neg: r.Neg, Num: string(num.Abs(num).Bytes()), Den: string(den.Bytes())},
	}
	if r.Den == "" {
		list = append(list, api.Rat{Neg: r.Neg, Num: r.Num, Den: "\x01"}, api.Rat{Neg: r.Neg, Num: r.Num, Den: "\x00"})
	}
	if r.Num == "" {
		list = append(list, api.Rat{Neg: true}, api.Rat{Den: "\x09"}, api.Rat{Neg: true, Num: "\x00\x00", Den: "\x00\x03"})
	}
	return list
}

// loose returns the point p with coordinates that are not canonical, of a kind that a number chooses.
func loose(p api.Point, kind int) api.Point {
	xs, ys := variants(p.X), variants(p.Y)
	return api.Point{X: xs[kind%len(xs)], Y: ys[kind/2%len(ys)]}
}

// numbers returns canonical numbers of all sizes: also around the greatest machine integers, and with long denominators.
func numbers() []api.Rat {
	one := big.NewRat(1, 1)
	tiny, near := new(big.Rat).Inv(power(200, 0)), new(big.Rat).Inv(power(200, 0))
	list := []*big.Rat{new(big.Rat), one, big.NewRat(1, 2), big.NewRat(-5, 3), big.NewRat(7, 1), power(31, -1), power(63, -1), power(63, 0), power(64, 1), power(200, 1), tiny, near.Add(near, one)}
	var all []api.Rat
	for _, v := range list {
		all = append(all, number(v))
		if v.Sign() != 0 {
			all = append(all, number(new(big.Rat).Neg(v)))
		}
	}
	return all
}

// pairs calls a check for many pairs of canonical points.
func pairs(check func(p, q api.Point)) {
	r := rand.New(rand.NewSource(1))
	list := numbers()
	pick := func() api.Rat { return list[r.Intn(len(list))] }
	for _, x := range list {
		for _, y := range list {
			p := api.Point{X: x, Y: y}
			check(p, p)
			check(p, api.Point{})
			check(p, api.Point{X: x, Y: pick()})
			check(p, api.Point{X: pick(), Y: y})
			check(p, api.Point{X: y, Y: x})
			for range 6 {
				check(p, api.Point{X: pick(), Y: pick()})
			}
		}
	}
}

// random returns a number whose numerator and denominator have at most n digits.
func random(r *rand.Rand, n int) api.Rat {
	num, den := make([]byte, r.Intn(n+1)), make([]byte, 1+r.Intn(n))
	r.Read(num)
	r.Read(den)
	return number(value(api.Rat{Neg: r.Intn(2) == 0, Num: string(num), Den: string(den)}))
}

// randomPoint returns a point with random coordinates of any length, many of them short.
func randomPoint(r *rand.Rand) api.Point {
	n := 1 + r.Intn(1+r.Intn(12))
	return api.Point{X: random(r, n), Y: random(r, n)}
}

// show returns a text of a point.
func show(p api.Point) string {
	return "(" + value(p.X).RatString() + ", " + value(p.Y).RatString() + ")"
}

// samePoint reports an error if a point is not the canonical one that is expected.
func samePoint(t *testing.T, what string, got, want api.Point) {
	t.Helper()
	if got != want {
		t.Errorf("%s: %#v is not %s", what, got, show(want))
	}
}

// sameNumber reports an error if a number is not the canonical one that is expected.
func sameNumber(t *testing.T, what string, got, want api.Rat) {
	t.Helper()
	if got != want {
		t.Errorf("%s: %#v is not %s", what, got, value(want).RatString())
	}
}

// coordinatewise returns the point that an operation of numbers makes of the coordinates of p and q.
func coordinatewise(p, q api.Point, operation func(z, x, y *big.Rat) *big.Rat) api.Point {
	return api.Point{
		X: number(operation(new(big.Rat), value(p.X), value(q.X))),
		Y: number(operation(new(big.Rat), value(p.Y), value(q.Y))),
	}
}

// products returns a * b and c * d.
func products(a, b, c, d api.Rat) (*big.Rat, *big.Rat) {
	return new(big.Rat).Mul(value(a), value(b)), new(big.Rat).Mul(value(c), value(d))
}

// expectedDot returns the scalar product.
func expectedDot(p, q api.Point) api.Rat {
	x, y := products(p.X, q.X, p.Y, q.Y)
	return number(x.Add(x, y))
}

// expectedSquare returns the square distance.
func expectedSquare(p, q api.Point) api.Rat {
	d := coordinatewise(p, q, (*big.Rat).Sub)
	x, y := value(d.X), value(d.Y)
	x.Abs(x)
	y.Abs(y)
	if x.Cmp(y) < 0 {
		return number(y)
	}
	return number(x)
}

// expectedOrder returns the lexicographic order of p and q.
func expectedOrder(p, q api.Point) int {
	if order := value(p.X).Cmp(value(q.X)); order != 0 {
		return order
	}
	return value(p.Y).Cmp(value(q.Y))
}

// expectedAt returns p + r * (q - p).
func expectedAt(p, q api.Point, r api.Rat) api.Point {
	step := coordinatewise(coordinatewise(q, p, (*big.Rat).Sub), api.Point{X: r, Y: r}, (*big.Rat).Mul)
	return coordinatewise(p, step, (*big.Rat).Add)
}

// checkPair reports an error if a function of two points does not return what the document defines; x and y are points with the values of p and q.
func checkPair(t *testing.T, p, q, x, y api.Point) {
	t.Helper()
	what := func(function string) string {
		return "P6.1: " + function + " of " + show(p) + ", " + show(q)
	}
	samePoint(t, what("Add"), vector.Add(x, y), coordinatewise(p, q, (*big.Rat).Add))
	samePoint(t, what("Sub"), vector.Sub(x, y), coordinatewise(p, q, (*big.Rat).Sub))
	sameNumber(t, what("Dot"), vector.Dot(x, y), expectedDot(p, q))
	first, second := products(p.X, q.Y, p.Y, q.X)
	sameNumber(t, what("Cross"), vector.Cross(x, y), number(first.Sub(first, second)))
	if order := vector.Compare(x, y); order != expectedOrder(p, q) {
		t.Errorf("%s: %d", what("Compare"), order)
	}
	d := coordinatewise(p, q, (*big.Rat).Sub)
	sameNumber(t, what("Distance"), vector.Distance(x, y), expectedDot(d, d))
	sameNumber(t, what("Square"), vector.Square(x, y), expectedSquare(p, q))
}

func TestPairs(t *testing.T) {
	kind := 0
	pairs(func(p, q api.Point) {
		kind++
		checkPair(t, p, q, p, q)
		checkPair(t, p, q, loose(p, kind), q)
		checkPair(t, p, q, p, loose(q, kind))
		checkPair(t, p, q, loose(p, kind), loose(q, kind+1))
	})
}

func TestMultiples(t *testing.T) {
	list, kind := numbers(), 0
	pairs(func(p, q api.Point) {
		kind++
		r := list[kind%len(list)]
		want, part := coordinatewise(p, api.Point{X: r, Y: r}, (*big.Rat).Mul), expectedAt(p, q, r)
		for _, s := range append(variants(r), r) {
			samePoint(t, "P6.1: Scale of "+show(p), vector.Scale(p, s), want)
			samePoint(t, "P6.1: Scale of "+show(p), vector.Scale(loose(p, kind), s), want)
			samePoint(t, "P6.1: At of "+show(p)+", "+show(q), vector.At(p, q, s), part)
			samePoint(t, "P6.1: At of "+show(p)+", "+show(q), vector.At(loose(p, kind), loose(q, kind+1), s), part)
		}
	})
}

func TestOf(t *testing.T) {
	list := []int{0, 1, -1, 9, -10, 255, 256, -256, 65536, math.MaxInt32, math.MinInt32, math.MaxInt, math.MaxInt - 1, math.MinInt, math.MinInt + 1}
	for _, x := range list {
		for _, y := range list {
			samePoint(t, "P6.1: Of", vector.Of(x, y), point(int64(x), int64(y)))
		}
	}
	samePoint(t, "R4: Of", vector.Of(0, 0), api.Point{})
}

func TestCheck(t *testing.T) {
	list := numbers()
	for i, x := range list {
		y := list[len(list)-1-i]
		if e := vector.Check(api.Point{X: x, Y: y}); e != api.OK {
			t.Errorf("P6.1: Check(%s): %d", show(api.Point{X: x, Y: y}), e)
		}
		for _, bad := range append(variants(x), api.Rat{Neg: true}, api.Rat{Num: "\x04", Den: "\x06"}, api.Rat{Num: "\x00"}, api.Rat{Den: "\x02"}, api.Rat{Num: "\x03", Den: "\x00\x02"}) {
			for _, p := range []api.Point{{X: bad, Y: y}, {X: y, Y: bad}, {X: bad, Y: bad}, {X: bad}, {Y: bad}} {
				if e := vector.Check(p); e != api.ErrArgument {
					t.Errorf("P6.1: Check(%#v): %d", p, e)
				}
			}
		}
	}
	if e := vector.Check(api.Point{}); e != api.OK {
		t.Errorf("P6.1: Check of the origin: %d", e)
	}
}

// The examples of the chapter.
func TestExamples(t *testing.T) {
	p, q := vector.Of(1, 2), vector.Of(3, -1)
	samePoint(t, "P6.1: Add", vector.Add(p, q), point(4, 1))
	samePoint(t, "P6.1: Sub", vector.Sub(p, q), point(-2, 3))
	samePoint(t, "P6.1: Scale", vector.Scale(p, ratio(-3, 2)), api.Point{X: ratio(-3, 2), Y: ratio(-3, 1)})
	sameNumber(t, "P6.1: Dot", vector.Dot(p, q), ratio(1, 1))
	sameNumber(t, "P6.1: Cross", vector.Cross(p, q), ratio(-7, 1))
	samePoint(t, "P6.1: At", vector.At(p, q, ratio(1, 2)), api.Point{X: ratio(2, 1), Y: ratio(1, 2)})
	sameNumber(t, "P6.1: Distance", vector.Distance(p, q), ratio(13, 1))
	sameNumber(t, "P6.1: Square", vector.Square(p, q), ratio(3, 1))
	if vector.Compare(p, q) != -1 || vector.Compare(q, p) != 1 || vector.Compare(p, p) != 0 {
		t.Error("P6.1: Compare")
	}
}

// Each of the four differences of the coordinates can be the greatest one.
func TestSquareOfAllDirections(t *testing.T) {
	for x := int64(-4); x <= 4; x++ {
		for y := int64(-4); y <= 4; y++ {
			want := max(x, -x, y, -y)
			sameNumber(t, "P6.1: Square", vector.Square(point(x+5, y-7), point(5, -7)), ratio(want, 1))
		}
	}
}

func TestLongNumbers(t *testing.T) {
	r := rand.New(rand.NewSource(2))
	for range 3 {
		p, q := api.Point{X: random(r, 600), Y: random(r, 600)}, api.Point{X: random(r, 600), Y: random(r, 600)}
		checkPair(t, p, q, p, q)
		s := random(r, 600)
		samePoint(t, "P6.1: At", vector.At(p, q, s), expectedAt(p, q, s))
	}
}
