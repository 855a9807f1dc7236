package predicate_test

import (
	"math/big"
	"testing"

	"narrows/api"
	"narrows/predicate"
	"narrows/rational"
	"narrows/vector"
)

// sampled calls a check for every fifth one of many quadruples of canonical points: of all kinds, as neither the three columns of the grid nor the six kinds of random points have a period that 5 divides.
func sampled(check func(a, b, c, d api.Point)) {
	count := 0
	quadruples(func(a, b, c, d api.Point) {
		if count++; count%5 == 0 {
			check(a, b, c, d)
		}
	})
}

// sameSign reports an error if a sign is not the expected one.
func sameSign(t *testing.T, what string, got, want int, points ...api.Point) {
	t.Helper()
	if got != want {
		t.Errorf("%s: %s: %d is not %d", what, show(points...), got, want)
	}
}

func TestOrientation(t *testing.T) {
	sampled(func(a, b, c, d api.Point) {
		o := predicate.Orient(a, b, c)
		sameSign(t, "P7.2: first two exchanged", predicate.Orient(b, a, c), -o, a, b, c)
		sameSign(t, "P7.2: last two exchanged", predicate.Orient(a, c, b), -o, a, b, c)
		sameSign(t, "P7.2: first and last exchanged", predicate.Orient(c, b, a), -o, a, b, c)
		sameSign(t, "P7.2: rotated", predicate.Orient(b, c, a), o, a, b, c)
		sameSign(t, "P7.2: rotated twice", predicate.Orient(c, a, b), o, a, b, c)
		sameSign(t, "P7.2: moved", predicate.Orient(vector.Add(a, d), vector.Add(b, d), vector.Add(c, d)), o, a, b, c, d)
		sameSign(t, "P7.2: moved back", predicate.Orient(vector.Sub(a, d), vector.Sub(b, d), vector.Sub(c, d)), o, a, b, c, d)
		sameSign(t, "P7.2: equal points", predicate.Orient(a, a, b), 0, a, b)
		sameSign(t, "P7.2: a line", predicate.Orient(a, b, vector.At(a, b, d.X)), 0, a, b)
	})
}

// mirrored returns the point with the coordinates of p exchanged.
func mirrored(p api.Point) api.Point {
	return api.Point{X: p.Y, Y: p.X}
}

func TestCircles(t *testing.T) {
	sampled(func(a, b, c, d api.Point) {
		in := predicate.Incircle(a, b, c, d)
		sameSign(t, "P7.3: a and b exchanged", predicate.Incircle(b, a, c, d), -in, a, b, c, d)
		sameSign(t, "P7.3: a and c exchanged", predicate.Incircle(c, b, a, d), -in, a, b, c, d)
		sameSign(t, "P7.3: a and d exchanged", predicate.Incircle(d, b, c, a), -in, a, b, c, d)
		sameSign(t, "P7.3: b and c exchanged", predicate.Incircle(a, c, b, d), -in, a, b, c, d)
		sameSign(t, "P7.3: b and d exchanged", predicate.Incircle(a, d, c, b), -in, a, b, c, d)
		sameSign(t, "P7.3: c and d exchanged", predicate.Incircle(a, b, d, c), -in, a, b, c, d)
		sameSign(t, "P7.3: equal points", predicate.Incircle(a, b, c, a), 0, a, b, c)
		sameSign(t, "P7.3: mirrored", predicate.Incircle(mirrored(a), mirrored(b), mirrored(c), mirrored(d)), -in, a, b, c, d)
		center, e := predicate.Center(a, b, c)
		if e != api.OK {
			return
		}
		nearer := rational.Compare(vector.Distance(center, a), vector.Distance(center, d))
		sameSign(t, "P7.3: distance from the center", in*predicate.Orient(a, b, c), nearer, a, b, c, d)
		sameSign(t, "P7.3: the center", predicate.Incircle(a, b, c, center), predicate.Orient(a, b, c), a, b, c)
		opposite := vector.At(a, center, rational.Of(2))
		sameSign(t, "P7.3: the opposite point", predicate.Incircle(a, b, c, opposite), 0, a, b, c)
		within := vector.At(a, opposite, ratio(1, 1000003))
		sameSign(t, "P7.3: a point within", predicate.Incircle(a, b, c, within), predicate.Orient(a, b, c), a, b, c)
		beyond := vector.At(a, opposite, ratio(-1, 1000003))
		sameSign(t, "P7.3: a point outside", predicate.Incircle(a, b, c, beyond), -predicate.Orient(a, b, c), a, b, c)
	})
}

func TestAngles(t *testing.T) {
	vectors(func(u, v, w api.Point) {
		uv, vw, uw := predicate.Angle(u, v), predicate.Angle(v, w), predicate.Angle(u, w)
		sameSign(t, "P7.4: exchanged", predicate.Angle(v, u), -uv, u, v)
		sameSign(t, "P7.4: equal", predicate.Angle(u, u), 0, u)
		if uv == vw && uw != uv || uv == 0 && uw != vw || vw == 0 && uw != uv {
			t.Errorf("P7.4: Angle is not transitive: %s", show(u, v, w))
		}
		for _, r := range []api.Rat{ratio(1, 3), ratio(5, 1), number(power(100, 1)), number(new(big.Rat).Inv(power(100, 1)))} {
			sameSign(t, "P7.4: another length", predicate.Angle(vector.Scale(u, r), v), uv, u, v)
			sameSign(t, "P7.4: another length", predicate.Angle(v, vector.Scale(u, r)), -uv, u, v)
			sameSign(t, "P7.4: another length", predicate.Angle(u, vector.Scale(u, r)), 0, u)
		}
		if (u == api.Point{}) != (predicate.Angle(u, api.Point{}) == 0) || predicate.Angle(u, api.Point{}) < 0 {
			t.Errorf("P7.4: the zero vector does not come before %s", show(u))
		}
		sorted, e := predicate.Sort([]api.Point{u, v, w})
		if e != api.OK || len(sorted) != 3 || predicate.Angle(sorted[0], sorted[1]) > 0 || predicate.Angle(sorted[1], sorted[2]) > 0 {
			t.Errorf("P7.4: Sort of %s: %s, %d", show(u, v, w), show(sorted...), e)
		}
	})
}

// Each direction around the origin comes before all that follow, whatever their lengths are.
func TestAnglesOfCircle(t *testing.T) {
	list := circle()
	for i, u := range list {
		for k, v := range list {
			sameSign(t, "P7.4: order around the origin", predicate.Angle(u, v), max(-1, min(1, i-k)), u, v)
			sameSign(t, "P7.4: order around the origin", predicate.Angle(loose(u, i), loose(v, k)), max(-1, min(1, i-k)), u, v)
		}
	}
}

func TestTriangles(t *testing.T) {
	sampled(func(a, b, c, p api.Point) {
		in := predicate.Inside(api.Triangle{A: a, B: b, C: c}, p)
		for _, o := range []api.Triangle{{A: a, B: c, C: b}, {A: b, B: a, C: c}, {A: b, B: c, C: a}, {A: c, B: a, C: b}, {A: c, B: b, C: a}} {
			sameSign(t, "P7.5: another order of the corners", predicate.Inside(o, p), in, a, b, c, p)
		}
		side := predicate.Orient(a, b, c)
		within := side != 0 && predicate.Orient(a, b, p) == side && predicate.Orient(b, c, p) == side && predicate.Orient(c, a, p) == side
		if within != (in == 1) {
			t.Errorf("P7.5: Inside of %s: %d", show(a, b, c, p), in)
		}
		on := predicate.Between(a, b, p) || predicate.Between(b, c, p) || predicate.Between(c, a, p)
		if on != (in == 0) {
			t.Errorf("P7.5: Inside of %s: %d", show(a, b, c, p), in)
		}
		third := ratio(1, 3)
		mean := vector.Scale(vector.Add(a, vector.Add(b, c)), third)
		sameSign(t, "P7.5: the mean of the corners", predicate.Inside(api.Triangle{A: a, B: b, C: c}, mean), side*side, a, b, c)
		sameSign(t, "P7.5: a point of a side", predicate.Inside(api.Triangle{A: a, B: b, C: c}, vector.At(c, a, third)), 0, a, b, c)
		sameSign(t, "P7.5: a corner", predicate.Inside(api.Triangle{A: a, B: b, C: c}, b), 0, a, b, c)
	})
}

func TestWedges(t *testing.T) {
	vectors(func(u, v, w api.Point) {
		there, back := predicate.Wedge(u, v, w), predicate.Wedge(v, u, w)
		if half := predicate.Wedge(u, v, u) || predicate.Wedge(u, v, v); half {
			t.Errorf("P7.6: an end of the wedge from %s lies in it", show(u, v))
		}
		zero := u == api.Point{} || v == api.Point{} || w == api.Point{}
		end := predicate.Angle(u, w) == 0 || predicate.Angle(v, w) == 0
		if zero || end {
			if there || back {
				t.Errorf("P7.6: the wedge from %s contains %s", show(u, v), show(w))
			}
			return
		}
		if same := predicate.Angle(u, v) == 0; same != (there == back) || same && !there {
			t.Errorf("P7.6: %s lies in the wedges from %s and back: %t, %t", show(w), show(u, v), there, back)
		}
	})
}

// sumOfRoots reports whether the square roots of a and b add up to that of c, for numbers that are not negative.
func sumOfRoots(a, b, c api.Rat) bool {
	rest := rational.Sub(c, rational.Add(a, b))
	product := rational.Mul(rational.Of(4), rational.Mul(a, b))
	return rational.Sign(rest) >= 0 && rational.Compare(rational.Mul(rest, rest), product) == 0
}

func TestSegments(t *testing.T) {
	sampled(func(a, b, p, q api.Point) {
		on := predicate.Between(a, b, p)
		if predicate.Between(b, a, p) != on {
			t.Errorf("P7.7: Between of %s is not symmetric", show(a, b, p))
		}
		if on != sumOfRoots(vector.Distance(a, p), vector.Distance(p, b), vector.Distance(a, b)) {
			t.Errorf("P7.7: Between of %s: %t", show(a, b, p), on)
		}
		if !predicate.Between(a, b, a) || !predicate.Between(a, b, b) || !predicate.Between(a, b, vector.At(a, b, ratio(2, 7))) {
			t.Errorf("P7.7: the segment from %s does not contain its points", show(a, b))
		}
		if predicate.Between(a, a, p) != (a == p) {
			t.Errorf("P7.7: the segment that is %s, and %s", show(a), show(p))
		}
		if a != b && (predicate.Between(a, b, vector.At(a, b, ratio(-1, 99))) || predicate.Between(a, b, vector.At(a, b, ratio(100, 99)))) {
			t.Errorf("P7.7: the segment from %s contains points beyond its ends", show(a, b))
		}
	})
}
