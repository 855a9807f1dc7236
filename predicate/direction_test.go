package predicate_test

import (
	"math/big"
	"math/rand"
	"slices"
	"sort"
	"testing"

	"narrows/api"
	"narrows/predicate"
)

// turn returns a number from 0 to less than 4 that grows with the angle of a direction, as does the way around the square with the corners (1, 0), (0, 1), (-1, 0), (0, -1); and -1 for the zero vector.
func turn(v api.Point) *big.Rat {
	p := at(v)
	size := plus(new(big.Rat).Abs(p.x), new(big.Rat).Abs(p.y))
	if size.Sign() == 0 {
		return big.NewRat(-1, 1)
	}
	x := new(big.Rat).Quo(p.x, size)
	if p.y.Sign() < 0 {
		return plus(big.NewRat(3, 1), x)
	}
	return less(big.NewRat(1, 1), x)
}

// expectedWedge reports whether the turn from u to w is shorter than that from u to v.
func expectedWedge(u, v, w api.Point) bool {
	from, to, by := turn(u), turn(v), turn(w)
	if from.Sign() < 0 || to.Sign() < 0 || by.Sign() < 0 {
		return false
	}
	whole := func(d *big.Rat) *big.Rat {
		if d.Sign() <= 0 {
			return plus(d, big.NewRat(4, 1))
		}
		return d
	}
	return by.Cmp(from) != 0 && whole(less(by, from)).Cmp(whole(less(to, from))) < 0
}

// expectedSort returns vectors in the order of their directions, then of their lengths.
func expectedSort(l []api.Point) []api.Point {
	result := make([]api.Point, len(l))
	for i, v := range l {
		result[i] = api.Point{X: number(value(v.X)), Y: number(value(v.Y))}
	}
	sort.SliceStable(result, func(i, k int) bool {
		if order := turn(result[i]).Cmp(turn(result[k])); order != 0 {
			return order < 0
		}
		return at(result[i]).length().Cmp(at(result[k]).length()) < 0
	})
	return result
}

// circle returns directions in their order around the origin, the first one along the positive x axis, with different lengths.
func circle() []api.Point {
	tiny := number(new(big.Rat).Inv(power(200, 0)))
	huge, one := number(power(200, 1)), ratio(1, 1)
	quarter := []api.Point{{X: ratio(7, 2)}, {X: huge, Y: one}, {X: one, Y: tiny}, point(9, 1), point(3, 2), point(5, 5), {X: ratio(1, 2), Y: ratio(2, 3)}, {X: one, Y: huge}}
	slices.SortFunc(quarter, func(u, v api.Point) int { return turn(u).Cmp(turn(v)) })
	var all []api.Point
	for range 4 {
		all = append(all, quarter...)
		for i, v := range quarter {
			quarter[i] = api.Point{X: number(new(big.Rat).Neg(value(v.Y))), Y: v.X}
		}
	}
	return all
}

// scaled returns n * v.
func scaled(v api.Point, n int64) api.Point {
	p, factor := at(v), big.NewRat(n, 1)
	return api.Point{X: number(times(factor, p.x)), Y: number(times(factor, p.y))}
}

// vectors calls a check for many triples of canonical vectors, many of which have equal directions.
func vectors(check func(u, v, w api.Point)) {
	var grid []api.Point
	for x := int64(-2); x <= 2; x++ {
		for y := int64(-2); y <= 2; y++ {
			grid = append(grid, point(x, y))
		}
	}
	for _, u := range grid {
		for _, v := range grid {
			for _, w := range grid {
				check(u, v, w)
			}
		}
	}
	r := rand.New(rand.NewSource(3))
	for range 1500 {
		check(small(r), small(r), small(r))
		check(extreme(r), extreme(r), extreme(r))
		u, v := random(r, 7), extreme(r)
		check(u, v, onLine(r, api.Point{}, u))
		check(nudged(r, u), u, nudged(r, onLine(r, api.Point{}, u)))
		check(u, onLine(r, api.Point{}, u), v)
	}
}

func TestDirections(t *testing.T) {
	kind := 0
	vectors(func(u, v, w api.Point) {
		kind++
		x, y, z := loose(u, kind), loose(v, kind/2), loose(w, kind/3)
		if got, want := predicate.Angle(u, v), turn(u).Cmp(turn(v)); got != want || predicate.Angle(x, y) != want {
			t.Errorf("P7.1: Angle of %s: %d", show(u, v), got)
		}
		if got, want := predicate.Wedge(u, v, w), expectedWedge(u, v, w); got != want || predicate.Wedge(x, y, z) != want {
			t.Errorf("P7.1: Wedge of %s: %t", show(u, v, w), got)
		}
	})
}

// The examples of the chapter that are about directions.
func TestExamplesOfDirections(t *testing.T) {
	list := []api.Point{{}, point(1, 0), point(1, 1), point(0, 5), point(-1, 0), point(0, -1)}
	for i, u := range list {
		for k, v := range list {
			want := max(-1, min(1, i-k))
			if got := predicate.Angle(u, v); got != want {
				t.Errorf("P7.1: Angle of %s: %d", show(u, v), got)
			}
		}
	}
	x, y := point(1, 0), point(0, 1)
	if !predicate.Wedge(x, y, point(1, 1)) || !predicate.Wedge(y, x, point(-1, -1)) || predicate.Wedge(x, y, point(-1, -1)) || predicate.Wedge(y, x, point(1, 1)) {
		t.Error("P7.1: Wedge")
	}
}

// All triples of directions around the origin: w is met between u and v exactly if it stands between them in the list, behind whose end its beginning follows.
func TestWedgesOfCircle(t *testing.T) {
	list := circle()
	n := len(list)
	for i, u := range list {
		for k, v := range list {
			for m, w := range list {
				whole := (k-i+n-1)%n + 1
				want := m != i && (m-i+n)%n < whole
				if got := predicate.Wedge(u, v, w); got != want {
					t.Errorf("P7.1: Wedge of %s: %t", show(u, v, w), got)
				}
			}
		}
	}
}

// A whole turn from a direction to itself meets all the others; there are no wedges of the zero vector.
func TestSpecialWedges(t *testing.T) {
	var zero api.Point
	for i, u := range circle() {
		same, opposite := scaled(u, 3), loose(scaled(u, -1), i)
		if !predicate.Wedge(u, same, opposite) || predicate.Wedge(u, same, u) || predicate.Wedge(u, u, same) || !predicate.Wedge(u, u, opposite) {
			t.Errorf("P7.6: the whole turn from %s", show(u))
		}
		if predicate.Wedge(u, opposite, u) || predicate.Wedge(u, opposite, opposite) || predicate.Wedge(opposite, u, same) {
			t.Errorf("P7.6: half a turn from %s contains its ends", show(u))
		}
		for _, z := range []api.Point{zero, loose(zero, i)} {
			if predicate.Wedge(z, u, opposite) || predicate.Wedge(u, z, opposite) || predicate.Wedge(u, opposite, z) || predicate.Wedge(u, u, z) || predicate.Wedge(z, z, u) || predicate.Wedge(z, u, z) || predicate.Wedge(z, z, z) {
				t.Errorf("P7.1: Wedge of %s and the zero vector", show(u))
			}
		}
	}
}

// checkSort reports an error if Sort does not return the vectors of a list in their order.
func checkSort(t *testing.T, l []api.Point) {
	t.Helper()
	got, e := predicate.Sort(l)
	if want := expectedSort(l); e != api.OK || !slices.Equal(got, want) {
		t.Errorf("P7.1: Sort of %s: %s, %d", show(l...), show(got...), e)
	}
}

func TestSort(t *testing.T) {
	r := rand.New(rand.NewSource(4))
	all := circle()
	for range 200 {
		l := make([]api.Point, r.Intn(20))
		for i := range l {
			switch r.Intn(5) {
			case 0:
				l[i] = all[r.Intn(len(all))]
			case 1:
				l[i] = onLine(r, api.Point{}, all[r.Intn(len(all))])
			case 2:
				l[i] = loose(small(r), r.Intn(30))
			case 3:
				l[i] = random(r, 9)
			default:
				l[i] = small(r)
			}
		}
		checkSort(t, l)
	}
}

func TestSortOfFewVectors(t *testing.T) {
	checkSort(t, nil)
	checkSort(t, []api.Point{})
	checkSort(t, []api.Point{{}})
	checkSort(t, []api.Point{loose(point(2, -3), 2)})
	checkSort(t, []api.Point{{X: api.Rat{Neg: true}, Y: api.Rat{Num: "\x00", Den: "\x05"}}, point(1, 0), {}})
	l := []api.Point{point(0, -1), point(3, 3), point(-1, 0), point(1, 1), {}, point(0, 5), point(2, 2), point(1, 0), {X: api.Rat{Num: "\x02", Den: "\x04"}, Y: ratio(1, 2)}, {}}
	want := []api.Point{{}, {}, point(1, 0), {X: ratio(1, 2), Y: ratio(1, 2)}, point(1, 1), point(2, 2), point(3, 3), point(0, 5), point(-1, 0), point(0, -1)}
	if got, e := predicate.Sort(l); e != api.OK || !slices.Equal(got, want) {
		t.Errorf("P7.1: Sort: %s, %d", show(got...), e)
	}
}

// around returns n vectors that are not in order.
func around(n int) []api.Point {
	var list []api.Point
	for i := range int64(n) {
		list = append(list, point(i*7%23-11, i*5%19-9))
	}
	return list
}

func TestSortOfManyVectors(t *testing.T) {
	checkSort(t, around(api.MaxPoints-1))
	checkSort(t, around(api.MaxPoints))
	checkSort(t, make([]api.Point, api.MaxPoints))
	for _, l := range [][]api.Point{around(api.MaxPoints + 1), around(3 * api.MaxPoints), make([]api.Point, api.MaxPoints+1)} {
		if got, e := predicate.Sort(l); e != api.ErrLimit || len(got) != 0 {
			t.Errorf("P7.1: Sort of %d vectors: %d, %d", len(l), len(got), e)
		}
	}
}

// Sort keeps its argument as it is, and returns new memory.
func TestMemory(t *testing.T) {
	for _, l := range [][]api.Point{around(9), expectedSort(around(9)), {point(1, 1)}, {loose(point(2, 1), 3), loose(point(1, 0), 4)}} {
		kept := slices.Clone(l)
		first, _ := predicate.Sort(l)
		if !slices.Equal(l, kept) {
			t.Errorf("R3: the argument of Sort was changed: %#v", l)
		}
		again, _ := predicate.Sort(l)
		if !slices.Equal(first, again) {
			t.Errorf("R5: Sort of the same vectors: %s, %s", show(first...), show(again...))
		}
		clear(first)
		if !slices.Equal(l, kept) || slices.Equal(first, again) {
			t.Error("R3: the result of Sort shares its memory")
		}
	}
}
