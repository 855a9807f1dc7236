package rotation_test

import (
	"math/big"
	"math/rand"
	"strings"
	"testing"

	"narrows/api"
	"narrows/rational"
	"narrows/rotation"
)

// plane is a point whose coordinates tests compute with.
type plane struct{ x, y *big.Rat }

// coordinates returns the values of the coordinates of p.
func coordinates(p api.Point) plane {
	return plane{value(p.X), value(p.Y)}
}

// minus returns the vector from q to p.
func (p plane) minus(q plane) plane {
	return plane{new(big.Rat).Sub(p.x, q.x), new(big.Rat).Sub(p.y, q.y)}
}

// dot returns the scalar product of two vectors.
func (p plane) dot(q plane) *big.Rat {
	product := new(big.Rat).Mul(p.x, q.x)
	return product.Add(product, new(big.Rat).Mul(p.y, q.y))
}

// cross returns the determinant of two vectors.
func (p plane) cross(q plane) *big.Rat {
	product := new(big.Rat).Mul(p.x, q.y)
	return product.Sub(product, new(big.Rat).Mul(p.y, q.x))
}

// image returns the image of p under r, as a complex number times another one.
func image(r api.Rotation, p api.Point) api.Point {
	q := product(r, api.Rotation{Cos: p.X, Sin: p.Y})
	return api.Point{X: q.Cos, Y: q.Sin}
}

// points returns some points, the origin among them.
func points() []api.Point {
	huge := api.Rat{Neg: true, Num: strings.Repeat("\xfe", 40), Den: "\x03"}
	return []api.Point{{}, point(1, 0), point(0, 1), point(-2, 0), point(0, -3), point(3, 4), {X: ratio(-7, 3), Y: ratio(5, 2)}, {X: huge, Y: ratio(1, 9)}, {X: number(small(99)), Y: huge}}
}

// apply returns the image of p under r.
func apply(t *testing.T, r api.Rotation, p api.Point) api.Point {
	t.Helper()
	q, e := rotation.Apply(r, p)
	succeed(t, "Apply", e)
	return q
}

func TestApply(t *testing.T) {
	for _, r := range samples() {
		for _, p := range points() {
			q := apply(t, r, p)
			if q != image(r, p) {
				t.Errorf("P4.1: Apply(%s, %#v): %#v", show(r), p, q)
			}
			for _, x := range variants(p.X) {
				if apply(t, r, api.Point{X: x, Y: p.Y}) != q {
					t.Errorf("P4.1: Apply(%s, %#v), not canonical", show(r), p)
				}
			}
			for _, y := range variants(p.Y) {
				if apply(t, r, api.Point{X: p.X, Y: y}) != q {
					t.Errorf("P4.1: Apply(%s, %#v), not canonical", show(r), p)
				}
			}
		}
	}
	if q := apply(t, at(0, 1, 1), point(5, 2)); q != point(-2, 5) {
		t.Errorf("P4.1: a quarter turn of (5, 2): %#v", q)
	}
}

func TestImages(t *testing.T) {
	r := rand.New(rand.NewSource(4))
	for range 1000 {
		a, b := rotation.Of(random(r, 6)), rotation.Of(random(r, 6))
		p, q := api.Point{X: random(r, 5), Y: random(r, 5)}, api.Point{X: random(r, 5), Y: random(r, 5)}
		u, v := coordinates(p), coordinates(q)
		up, vp := coordinates(apply(t, a, p)), coordinates(apply(t, a, q))
		if u.dot(v).Cmp(up.dot(vp)) != 0 || u.cross(v).Cmp(up.cross(vp)) != 0 {
			t.Errorf("P4.3: %s does not keep the products of %#v and %#v", show(a), p, q)
		}
		ab, e := rotation.Then(a, b)
		succeed(t, "Then", e)
		if apply(t, ab, p) != apply(t, b, apply(t, a, p)) {
			t.Errorf("P4.3: Then(%s; %s) for %#v", show(a), show(b), p)
		}
		if x := apply(t, a, p); rational.Check(x.X) != api.OK || rational.Check(x.Y) != api.OK {
			t.Errorf("P4.1: Apply(%s, %#v) is not canonical", show(a), p)
		}
	}
}

// expectedCorner returns what the document defines.
func expectedCorner(a, b api.Rotation, p api.Point) api.Point {
	u, v := coordinates(image(a, p)), coordinates(image(b, p))
	whole := plane{value(a.Cos), value(a.Sin)}.dot(plane{value(b.Cos), value(b.Sin)})
	whole.Add(whole, big.NewRat(1, 1))
	x, y := new(big.Rat).Add(u.x, v.x), new(big.Rat).Add(u.y, v.y)
	return api.Point{X: number(x.Quo(x, whole)), Y: number(y.Quo(y, whole))}
}

func TestCorner(t *testing.T) {
	list := samples()
	for i, a := range list {
		for k, b := range list {
			for _, p := range points() {
				c, e := rotation.Corner(a, b, p)
				// The opposite of a rotation stands half the list behind it.
				if (k-i+len(list))%len(list) >= len(list)/2 {
					if c != (api.Point{}) || e != api.ErrRange {
						t.Errorf("P4.1: Corner(%s; %s): %#v, %d", show(a), show(b), c, e)
					}
					continue
				}
				succeed(t, "Corner", e)
				if c != expectedCorner(a, b, p) {
					t.Errorf("P4.1: Corner(%s; %s; %#v): %#v", show(a), show(b), p, c)
				}
			}
		}
	}
}

func TestCornerOfPointsThatAreNotCanonical(t *testing.T) {
	a, b, p := at(3, 4, 5), at(-3, 4, 5), api.Point{X: ratio(-7, 3)}
	for _, x := range variants(p.X) {
		for _, y := range variants(p.Y) {
			c, e := rotation.Corner(a, b, api.Point{X: x, Y: y})
			succeed(t, "Corner", e)
			if c != expectedCorner(a, b, p) {
				t.Errorf("P4.1: Corner of %#v, %#v: %#v", x, y, c)
			}
		}
	}
}

func TestCornerOfQuarterTurn(t *testing.T) {
	c, e := rotation.Corner(rotation.None(), at(0, 1, 1), point(1, 0))
	if c != point(1, 1) || e != api.OK {
		t.Errorf("P4.1: Corner: %#v, %d", c, e)
	}
	// The angle from the quarter turn to None is three quarters.
	if c, e := rotation.Corner(at(0, 1, 1), rotation.None(), point(1, 0)); c != (api.Point{}) || e != api.ErrRange {
		t.Errorf("P4.1: Corner: %#v, %d", c, e)
	}
	if c, e := rotation.Corner(at(3, 4, 5), at(3, 4, 5), point(5, 0)); c != point(3, 4) || e != api.OK {
		t.Errorf("P4.1: Corner of equal rotations: %#v, %d", c, e)
	}
}

func TestTangentsAtCorner(t *testing.T) {
	r := rand.New(rand.NewSource(5))
	for range 1000 {
		a, step := rotation.Of(random(r, 4)), random(r, 3)
		step.Neg = false
		b, e := rotation.Then(a, rotation.Of(step))
		succeed(t, "Then", e)
		p := api.Point{X: random(r, 4), Y: random(r, 4)}
		q, e := rotation.Corner(a, b, p)
		succeed(t, "Corner", e)
		corner, u, v := coordinates(q), coordinates(apply(t, a, p)), coordinates(apply(t, b, p))
		if corner.minus(u).dot(u).Sign() != 0 || corner.minus(v).dot(v).Sign() != 0 {
			t.Errorf("P4.7: Corner(%s; %s; %#v) is not on both tangents", show(a), show(b), p)
		}
		part := rational.Mul(step, number(big.NewRat(r.Int63n(101), 100)))
		x, e := rotation.Then(a, rotation.Of(part))
		succeed(t, "Then", e)
		if in, e := rotation.Between(a, x, b); !in || e != api.OK {
			t.Errorf("P4.1: Between(%s; %s; %s): %t, %d", show(a), show(x), show(b), in, e)
		}
		// Seen from the origin, the corner lies behind the chord: so the first image, the corner and the second image turn to the left.
		z := coordinates(apply(t, x, p))
		for _, side := range [][2]plane{{u, corner}, {corner, v}, {v, u}} {
			if side[1].minus(side[0]).cross(z.minus(side[0])).Sign() < 0 {
				t.Errorf("P4.7: the image under %s leaves the triangle of %s and %s", show(x), show(a), show(b))
			}
		}
	}
}
