package vector_test

import (
	"math/big"
	"math/rand"
	"slices"
	"testing"

	"narrows/api"
	"narrows/rational"
	"narrows/vector"
)

// origin is the zero vector.
var origin api.Point

// triples calls a check for many triples of canonical points, some of which are equal or have a coordinate in common, and for two numbers.
func triples(check func(p, q, s api.Point, a, b api.Rat)) {
	r := rand.New(rand.NewSource(3))
	list := numbers()
	pick := func() api.Point { return api.Point{X: list[r.Intn(len(list))], Y: list[r.Intn(len(list))]} }
	for range 1500 {
		check(randomPoint(r), randomPoint(r), randomPoint(r), random(r, 3), random(r, 9))
		p, q, s := pick(), pick(), pick()
		check(p, q, s, list[r.Intn(len(list))], list[r.Intn(len(list))])
		check(p, api.Point{X: p.X, Y: q.Y}, api.Point{X: q.X, Y: p.Y}, random(r, 2), list[r.Intn(len(list))])
		check(p, q, p, random(r, 2), random(r, 2))
	}
}

func TestVectorSpace(t *testing.T) {
	one, zero := ratio(1, 1), api.Rat{}
	triples(func(p, q, s api.Point, a, b api.Rat) {
		samePoint(t, "P6.2: p + q", vector.Add(p, q), vector.Add(q, p))
		samePoint(t, "P6.2: p + q + s", vector.Add(vector.Add(p, q), s), vector.Add(p, vector.Add(q, s)))
		samePoint(t, "P6.2: p + q - q", vector.Sub(vector.Add(p, q), q), p)
		samePoint(t, "P6.2: p - q + q", vector.Add(vector.Sub(p, q), q), p)
		samePoint(t, "P6.2: p - p", vector.Sub(p, p), origin)
		samePoint(t, "P6.2: p + 0", vector.Add(p, origin), p)
		samePoint(t, "P6.2: p - 0", vector.Sub(p, origin), p)
		samePoint(t, "P6.2: 0 - p", vector.Sub(origin, p), vector.Scale(p, ratio(-1, 1)))
		samePoint(t, "P6.2: a * (p + q)", vector.Scale(vector.Add(p, q), a), vector.Add(vector.Scale(p, a), vector.Scale(q, a)))
		samePoint(t, "P6.2: (a + b) * p", vector.Scale(p, rational.Add(a, b)), vector.Add(vector.Scale(p, a), vector.Scale(p, b)))
		samePoint(t, "P6.2: a * b * p", vector.Scale(vector.Scale(p, b), a), vector.Scale(p, rational.Mul(a, b)))
		samePoint(t, "P6.2: 1 * p", vector.Scale(p, one), p)
		samePoint(t, "P6.2: 0 * p", vector.Scale(p, zero), origin)
	})
}

func TestProducts(t *testing.T) {
	triples(func(p, q, s api.Point, a, b api.Rat) {
		dot, cross := vector.Dot(p, q), vector.Cross(p, q)
		sameNumber(t, "P6.3: Dot of q, p", vector.Dot(q, p), dot)
		sameNumber(t, "P6.3: Cross of q, p", vector.Cross(q, p), rational.Neg(cross))
		sameNumber(t, "P6.3: Cross of p, p", vector.Cross(p, p), api.Rat{})
		for _, product := range []func(p, q api.Point) api.Rat{vector.Dot, vector.Cross} {
			both := rational.Add(rational.Mul(a, product(p, s)), rational.Mul(b, product(q, s)))
			sum := vector.Add(vector.Scale(p, a), vector.Scale(q, b))
			sameNumber(t, "P6.3: product of a * p + b * q, s", product(sum, s), both)
			both = rational.Add(rational.Mul(a, product(s, p)), rational.Mul(b, product(s, q)))
			sameNumber(t, "P6.3: product of s, a * p + b * q", product(s, sum), both)
			sameNumber(t, "P6.3: product of p, 0", product(p, origin), api.Rat{})
		}
		squares := rational.Add(rational.Mul(dot, dot), rational.Mul(cross, cross))
		sameNumber(t, "P6.3: squares of Dot and Cross", squares, rational.Mul(vector.Dot(p, p), vector.Dot(q, q)))
		if length := vector.Dot(p, p); length.Neg || (length == api.Rat{}) != (p == origin) {
			t.Errorf("P6.3: Dot of %s with itself: %#v", show(p), length)
		}
	})
}

func TestOrder(t *testing.T) {
	triples(func(p, q, s api.Point, a, b api.Rat) {
		pq, qs, ps := vector.Compare(p, q), vector.Compare(q, s), vector.Compare(p, s)
		if pq < -1 || pq > 1 || pq != -vector.Compare(q, p) {
			t.Errorf("P6.4: Compare(%s; %s): %d", show(p), show(q), pq)
		}
		if (pq == 0) != (p == q) || vector.Compare(p, loose(p, len(q.X.Num))) != 0 {
			t.Errorf("P6.4: Compare(%s; %s): %d", show(p), show(q), pq)
		}
		if pq == qs && ps != pq || pq == 0 && ps != qs {
			t.Errorf("P6.4: not transitive: %s; %s; %s", show(p), show(q), show(s))
		}
		if moved := vector.Compare(vector.Add(p, s), vector.Add(q, s)); moved != pq {
			t.Errorf("P6.4: Compare(%s; %s) after adding %s: %d", show(p), show(q), show(s), moved)
		}
	})
}

// Points in the order that the definition gives them, with the abscissa first.
func TestLexicographicOrder(t *testing.T) {
	list := []api.Point{point(-2, 9), point(-1, -3), point(-1, 0), point(-1, 4), point(0, -8), point(0, 0), {X: ratio(1, 3), Y: ratio(7, 1)}, {X: ratio(1, 2), Y: ratio(-1, 2)}, {X: ratio(1, 2), Y: ratio(-1, 3)}, point(1, -100)}
	for i, p := range list {
		for k, q := range list {
			want := max(-1, min(1, i-k))
			if order := vector.Compare(p, q); order != want {
				t.Errorf("P6.4: Compare(%s; %s): %d", show(p), show(q), order)
			}
			if order := vector.Compare(loose(p, i), loose(q, k)); order != want {
				t.Errorf("P6.4: Compare(%s; %s), not canonical: %d", show(p), show(q), order)
			}
		}
	}
}

func TestLines(t *testing.T) {
	one := ratio(1, 1)
	triples(func(p, q, s api.Point, a, b api.Rat) {
		samePoint(t, "P6.5: At 0", vector.At(p, q, api.Rat{}), p)
		samePoint(t, "P6.5: At 1", vector.At(p, q, one), q)
		samePoint(t, "P6.5: At of p, p", vector.At(p, p, a), p)
		x := vector.At(p, q, a)
		samePoint(t, "P6.5: At from q to p", vector.At(q, p, rational.Sub(one, a)), x)
		sameNumber(t, "P6.5: At on the line", vector.Cross(vector.Sub(q, p), vector.Sub(x, p)), api.Rat{})
		// Distance and Square are not negative, so the squares tell that the distances are proportional.
		sameNumber(t, "P6.5: Distance from p", vector.Distance(p, x), rational.Mul(rational.Mul(a, a), vector.Distance(p, q)))
		size := a
		size.Neg = false
		sameNumber(t, "P6.5: Square from p", vector.Square(p, x), rational.Mul(size, vector.Square(p, q)))
		// The direction from p is that of q for positive numbers, and the opposite one for negative numbers.
		sameNumber(t, "P6.5: direction from p", vector.Dot(vector.Sub(q, p), vector.Sub(x, p)), rational.Mul(a, vector.Distance(p, q)))
	})
}

func TestDistances(t *testing.T) {
	triples(func(p, q, s api.Point, a, b api.Rat) {
		distance, square := vector.Distance(p, q), vector.Square(p, q)
		sameNumber(t, "P6.6: Distance of q, p", vector.Distance(q, p), distance)
		sameNumber(t, "P6.6: Square of q, p", vector.Square(q, p), square)
		for _, d := range []api.Rat{distance, square} {
			if d.Neg || (d == api.Rat{}) != (p == q) {
				t.Errorf("P6.6: distance of %s, %s: %#v", show(p), show(q), d)
			}
		}
		sameNumber(t, "P6.6: Distance after a translation", vector.Distance(vector.Add(p, s), vector.Add(q, s)), distance)
		sameNumber(t, "P6.6: Square after a translation", vector.Square(vector.Add(p, s), vector.Add(q, s)), square)
		if rational.Compare(vector.Square(p, s), rational.Add(square, vector.Square(q, s))) > 0 {
			t.Errorf("P6.6: triangle inequality: %s, %s, %s", show(p), show(q), show(s))
		}
		small := rational.Mul(square, square)
		if rational.Compare(small, distance) > 0 || rational.Compare(distance, rational.Add(small, small)) > 0 {
			t.Errorf("P6.6: Distance and Square of %s, %s", show(p), show(q))
		}
	})
}

// Both bounds of the distance are reached: along an axis, and along a diagonal.
func TestBoundsOfDistances(t *testing.T) {
	for _, r := range numbers() {
		square := number(new(big.Rat).Mul(value(r), value(r)))
		for _, p := range []api.Point{origin, point(3, -4)} {
			for _, side := range []api.Point{{X: r}, {Y: r}} {
				sameNumber(t, "P6.6: Distance along an axis", vector.Distance(p, vector.Add(p, side)), square)
			}
			diagonal := vector.Add(p, api.Point{X: r, Y: rational.Neg(r)})
			sameNumber(t, "P6.6: Distance along a diagonal", vector.Distance(p, diagonal), rational.Add(square, square))
			size := r
			size.Neg = false
			sameNumber(t, "P6.6: Square along a diagonal", vector.Square(p, diagonal), size)
		}
	}
}

// Bound keeps its argument as it is, so that it can be asked again.
func TestMemory(t *testing.T) {
	l := []api.Point{point(3, 1), point(-2, 5), loose(point(0, 0), 3), point(3, 1)}
	kept := slices.Clone(l)
	first, e := vector.Bound(l)
	again, f := vector.Bound(l)
	if !slices.Equal(l, kept) {
		t.Errorf("R3: the argument of Bound was changed: %#v", l)
	}
	if first != again || e != f {
		t.Errorf("R5: Bound of the same points: %#v, %#v", first, again)
	}
}
