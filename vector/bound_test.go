package vector_test

import (
	"math/big"
	"math/rand"
	"slices"
	"testing"

	"narrows/api"
	"narrows/vector"
)

// bound returns the bound of points that must have one.
func bound(t *testing.T, l []api.Point) api.Box {
	t.Helper()
	b, e := vector.Bound(l)
	if e != api.OK {
		t.Fatalf("P6.1: Bound of %d points: %d", len(l), e)
	}
	return b
}

// box returns the box with these sides.
func box(left, low, right, high int64) api.Box {
	return api.Box{Min: point(left, low), Max: point(right, high)}
}

// row returns n points on a line, with both coordinates from 0 on.
func row(n int) []api.Point {
	var list []api.Point
	for i := range int64(n) {
		list = append(list, point(i, 2*i))
	}
	return list
}

// expectedBound returns the least box that contains points, of which there is one at least.
func expectedBound(l []api.Point) api.Box {
	by := func(coordinate func(p api.Point) api.Rat) func(p, q api.Point) int {
		return func(p, q api.Point) int { return value(coordinate(p)).Cmp(value(coordinate(q))) }
	}
	x, y := func(p api.Point) api.Rat { return p.X }, func(p api.Point) api.Rat { return p.Y }
	end := func(r api.Rat) api.Rat { return number(value(r)) }
	return api.Box{
		Min: api.Point{X: end(slices.MinFunc(l, by(x)).X), Y: end(slices.MinFunc(l, by(y)).Y)},
		Max: api.Point{X: end(slices.MaxFunc(l, by(x)).X), Y: end(slices.MaxFunc(l, by(y)).Y)},
	}
}

func TestBound(t *testing.T) {
	for i, c := range []struct {
		l    []api.Point
		want api.Box
	}{
		{[]api.Point{{}}, api.Box{}},
		{[]api.Point{point(3, -7)}, box(3, -7, 3, -7)},
		{[]api.Point{point(3, -7), point(3, -7)}, box(3, -7, 3, -7)},
		{[]api.Point{point(1, 2), point(3, -1)}, box(1, -1, 3, 2)},
		{[]api.Point{point(0, 9), point(9, 0), point(4, -9), point(-9, 4)}, box(-9, -9, 9, 9)},
		{[]api.Point{point(5, 5), point(6, 7), point(8, 9)}, box(5, 5, 8, 9)},
		{[]api.Point{point(-5, -5), point(-6, -7), point(-8, -9)}, box(-8, -9, -5, -5)},
		{[]api.Point{point(2, 0), point(2, 4), point(2, -4)}, box(2, -4, 2, 4)},
		{[]api.Point{{X: ratio(1, 3), Y: ratio(-1, 2)}, {X: ratio(1, 2), Y: ratio(-1, 3)}}, api.Box{Min: api.Point{X: ratio(1, 3), Y: ratio(-1, 2)}, Max: api.Point{X: ratio(1, 2), Y: ratio(-1, 3)}}},
		{row(api.MaxPoints), box(0, 0, api.MaxPoints-1, 2*api.MaxPoints-2)},
		{row(api.MaxPoints - 1), box(0, 0, api.MaxPoints-2, 2*api.MaxPoints-4)},
		{make([]api.Point, api.MaxPoints), api.Box{}},
	} {
		if b := bound(t, c.l); b != c.want {
			t.Errorf("P6.1: Bound, case %d: %#v", i, b)
		}
	}
}

func TestBoundRefuses(t *testing.T) {
	for i, c := range []struct {
		l []api.Point
		e api.Errno
	}{
		{nil, api.ErrEmpty},
		{[]api.Point{}, api.ErrEmpty},
		{row(7)[:0], api.ErrEmpty},
		{row(api.MaxPoints + 1), api.ErrLimit},
		{row(3 * api.MaxPoints), api.ErrLimit},
		{make([]api.Point, api.MaxPoints+1), api.ErrLimit},
	} {
		if b, e := vector.Bound(c.l); e != c.e || b != (api.Box{}) {
			t.Errorf("P6.1: Bound, case %d: %#v, %d", i, b, e)
		}
	}
}

// randomPoints returns at least one point; some coordinates are equal, and some are not canonical.
func randomPoints(r *rand.Rand) []api.Point {
	list := make([]api.Point, 1+r.Intn(9))
	all := numbers()
	for i := range list {
		switch r.Intn(3) {
		case 0:
			list[i] = point(int64(r.Intn(9)-4), int64(r.Intn(9)-4))
		case 1:
			list[i] = api.Point{X: all[r.Intn(len(all))], Y: all[r.Intn(len(all))]}
		default:
			list[i] = loose(randomPoint(r), r.Intn(9))
		}
	}
	return list
}

func TestBoundOfRandomPoints(t *testing.T) {
	r := rand.New(rand.NewSource(4))
	for range 2000 {
		l := randomPoints(r)
		b := bound(t, l)
		if b != expectedBound(l) {
			t.Errorf("P6.1: Bound(%#v): %#v", l, b)
		}
		if vector.Check(b.Min) != api.OK || vector.Check(b.Max) != api.OK {
			t.Errorf("P6.1: Bound(%#v) is not canonical: %#v", l, b)
		}
		var left, low, right, high bool
		for _, p := range l {
			if !vector.Within(b, p) {
				t.Errorf("P6.7: %#v does not contain %s", b, show(p))
			}
			x, y := number(value(p.X)), number(value(p.Y))
			left, low = left || x == b.Min.X, low || y == b.Min.Y
			right, high = right || x == b.Max.X, high || y == b.Max.Y
		}
		if !left || !low || !right || !high {
			t.Errorf("P6.7: a side of %#v has no point of %#v", b, l)
		}
		r.Shuffle(len(l), func(i, k int) { l[i], l[k] = l[k], l[i] })
		if again := bound(t, l); again != b {
			t.Errorf("P6.7: the order of %#v matters: %#v, %#v", l, b, again)
		}
		if doubled := bound(t, append(slices.Clone(l), l...)); doubled != b {
			t.Errorf("P6.7: Bound of %#v, each twice: %#v", l, doubled)
		}
	}
}

// The extreme point of each side can stand at each place of the list.
func TestBoundOfAllOrders(t *testing.T) {
	l := []api.Point{point(-3, 0), point(0, -5), point(4, 1), point(1, 6)}
	var try func(done int)
	try = func(done int) {
		if done == len(l) {
			if b := bound(t, l); b != box(-3, -5, 4, 6) {
				t.Errorf("P6.7: Bound(%#v): %#v", l, b)
			}
			return
		}
		for i := done; i < len(l); i++ {
			l[done], l[i] = l[i], l[done]
			try(done + 1)
			l[done], l[i] = l[i], l[done]
		}
	}
	try(0)
}

func TestBoundOfPointsThatAreNotCanonical(t *testing.T) {
	for _, x := range numbers() {
		for _, y := range []api.Rat{x, {}, ratio(-7, 3)} {
			p := api.Point{X: x, Y: y}
			for kind := range 12 {
				q := loose(p, kind)
				for _, l := range [][]api.Point{{q}, {q, q}, {p, q}, {q, p}} {
					if b := bound(t, l); b != (api.Box{Min: p, Max: p}) {
						t.Errorf("P6.1: Bound(%#v): %#v", l, b)
					}
				}
			}
		}
	}
}

// expectWithin reports an error if Within is wrong for a point, also with numbers that are not canonical.
func expectWithin(t *testing.T, b api.Box, p api.Point, want bool) {
	t.Helper()
	for kind := range 8 {
		loosened := api.Box{Min: loose(b.Min, kind), Max: loose(b.Max, kind+1)}
		if vector.Within(b, p) != want || vector.Within(b, loose(p, kind)) != want || vector.Within(loosened, p) != want || vector.Within(loosened, loose(p, kind)) != want {
			t.Errorf("P6.1: Within(%s to %s; %s) is not %t", show(b.Min), show(b.Max), show(p), want)
			return
		}
	}
}

func TestWithin(t *testing.T) {
	for _, b := range []api.Box{box(-2, -1, 2, 3), box(0, 0, 0, 0), box(1, -2, 1, 2), box(-2, 1, 2, 1), box(2, -1, -2, 3), box(-2, 3, 2, -1), box(2, 3, -2, -1)} {
		left, low, right, high := value(b.Min.X), value(b.Min.Y), value(b.Max.X), value(b.Max.Y)
		for x := int64(-7); x <= 7; x++ {
			for y := int64(-7); y <= 7; y++ {
				u, v := big.NewRat(x, 2), big.NewRat(y, 2)
				want := left.Cmp(u) <= 0 && u.Cmp(right) <= 0 && low.Cmp(v) <= 0 && v.Cmp(high) <= 0
				expectWithin(t, b, api.Point{X: number(u), Y: number(v)}, want)
			}
		}
	}
}

// A box ends exactly where its sides are: a number that is hardly greater lies beyond it.
func TestWithinIsExact(t *testing.T) {
	tiny := number(new(big.Rat).Inv(power(300, 0)))
	steps := []api.Point{{X: tiny}, {Y: tiny}}
	for _, b := range []api.Box{box(-2, -1, 2, 3), {Min: api.Point{X: ratio(-1, 3), Y: ratio(-2, 7)}, Max: api.Point{X: number(power(200, 1)), Y: ratio(1, 3)}}} {
		for _, corner := range []api.Point{b.Min, b.Max, {X: b.Min.X, Y: b.Max.Y}, {X: b.Max.X, Y: b.Min.Y}} {
			expectWithin(t, b, corner, true)
		}
		for _, step := range steps {
			expectWithin(t, b, vector.Sub(b.Min, step), false)
			expectWithin(t, b, vector.Add(b.Max, step), false)
			expectWithin(t, b, vector.Add(b.Min, step), true)
			expectWithin(t, b, vector.Sub(b.Max, step), true)
		}
	}
}

// Each point lies in its own box, and in no other one of a single point.
func TestWithinBoxesOfPoints(t *testing.T) {
	pairs(func(p, q api.Point) {
		if vector.Within(api.Box{Min: p, Max: p}, q) != (p == q) {
			t.Errorf("P6.1: Within(%s to %s; %s)", show(p), show(p), show(q))
		}
	})
}
