package predicate_test

import (
	"math/big"
	"math/rand"
	"testing"

	"narrows/api"
	"narrows/predicate"
)

// value returns the value of a number, canonical or not.
func value(r api.Rat) *big.Rat {
	num, den := new(big.Int).SetBytes([]byte(r.Num)), new(big.Int).SetBytes([]byte(r.Den))
	if den.Sign() == 0 {
		den.SetInt64(1)
	}
	v := new(big.Rat).SetFrac(num, den)
	if r.Neg {
		v.Neg(v)
	}
	return v
}

// number returns the canonical number with a value.
func number(v *big.Rat) api.Rat {
	r := api.Rat{Neg: v.Sign() < 0, Num: string(v.Num().Bytes())}
	if !v.IsInt() {
		r.Den = string(v.Denom().Bytes())
	}
	return r
}

// ratio returns the number n / d.
func ratio(n, d int64) api.Rat {
	return number(big.NewRat(n, d))
}

// point returns the point with the coordinates x and y.
func point(x, y int64) api.Point {
	return api.Point{X: ratio(x, 1), Y: ratio(y, 1)}
}

// power returns 2^n + add.
func power(n uint, add int64) *big.Rat {
	v := new(big.Int).Lsh(big.NewInt(1), n)
	return new(big.Rat).SetInt(v.Add(v, big.NewInt(add)))
}

// variants returns numbers with the value of r that are not canonical.
func variants(r api.Rat) []api.Rat {
	v := value(r)
	num, den := new(big.Int).Mul(v.Num(), big.NewInt(6)), new(big.Int).Mul(v.Denom(), big.NewInt(6))
	list := []api.Rat{
		{Neg: r.Neg, Num: "\x00" + r.Num, Den: r.Den},
		{Neg: r.Neg, Num: r.Num, Den: "\x00\x00" + r.Den},
		{Neg: r.Neg, Num: string(num.Abs(num).Bytes()), Den: string(den.Bytes())},
	}
	if r.Den == "" {
		list = append(list, api.Rat{Neg: r.Neg, Num: r.Num, Den: "\x01"}, api.Rat{Neg: r.Neg, Num: r.Num, Den: "\x00"})
	}
	if r.Num == "" {
		list = append(list, api.Rat{Neg: true}, api.Rat{Den: "\x09"}, api.Rat{Neg: true, Num: "\x00\x00", Den: "\x00\x03"})
	}
	return list
}

// loose returns the point p with coordinates that are not canonical, of a kind that a number chooses.
func loose(p api.Point, kind int) api.Point {
	xs, ys := variants(p.X), variants(p.Y)
	return api.Point{X: xs[kind%len(xs)], Y: ys[kind/2%len(ys)]}
}

// show returns a text of points.
func show(points ...api.Point) string {
	text := ""
	for _, p := range points {
		text += "(" + value(p.X).RatString() + ", " + value(p.Y).RatString() + ") "
	}
	return text
}

// plane is a point with the arithmetic of the standard library.
type plane struct{ x, y *big.Rat }

// at returns the point p.
func at(p api.Point) plane {
	return plane{value(p.X), value(p.Y)}
}

func (p plane) minus(q plane) plane {
	return plane{new(big.Rat).Sub(p.x, q.x), new(big.Rat).Sub(p.y, q.y)}
}

func (p plane) equals(q plane) bool {
	return p.x.Cmp(q.x) == 0 && p.y.Cmp(q.y) == 0
}

// times returns a * b.
func times(a, b *big.Rat) *big.Rat {
	return new(big.Rat).Mul(a, b)
}

// plus returns the sum of any numbers.
func plus(l ...*big.Rat) *big.Rat {
	sum := new(big.Rat)
	for _, v := range l {
		sum.Add(sum, v)
	}
	return sum
}

// less returns a - b.
func less(a, b *big.Rat) *big.Rat {
	return new(big.Rat).Sub(a, b)
}

// length returns the square of the length of a vector.
func (p plane) length() *big.Rat {
	return plus(times(p.x, p.x), times(p.y, p.y))
}

// area returns twice the signed area of a triangle, by the coordinates of its corners.
func area(a, b, c plane) *big.Rat {
	up := plus(times(a.x, b.y), times(b.x, c.y), times(c.x, a.y))
	return less(up, plus(times(a.y, b.x), times(b.y, c.x), times(c.y, a.x)))
}

// expectedCircle returns the sign of the determinant, which is the sum over all permutations.
func expectedCircle(a, b, c, d api.Point) int {
	var m [3][3]*big.Rat
	for i, p := range []api.Point{a, b, c} {
		v := at(p).minus(at(d))
		m[i] = [3]*big.Rat{v.x, v.y, v.length()}
	}
	sum := new(big.Rat)
	for i := range 3 {
		even, odd := [3]int{i, (i + 1) % 3, (i + 2) % 3}, [3]int{i, (i + 2) % 3, (i + 1) % 3}
		sum.Add(sum, times(times(m[0][even[0]], m[1][even[1]]), m[2][even[2]]))
		sum.Sub(sum, times(times(m[0][odd[0]], m[1][odd[1]]), m[2][odd[2]]))
	}
	return sum.Sign()
}

// expectedBetween reports whether a + t * (b - a) is p for a t from 0 to 1.
func expectedBetween(a, b, p plane) bool {
	whole, part := b.minus(a), p.minus(a)
	if whole.x.Sign() == 0 && whole.y.Sign() == 0 {
		return p.equals(a)
	}
	t := new(big.Rat)
	if whole.x.Sign() != 0 {
		t.Quo(part.x, whole.x)
	} else {
		t.Quo(part.y, whole.y)
	}
	return t.Sign() >= 0 && t.Cmp(big.NewRat(1, 1)) <= 0 && part.equals(plane{times(t, whole.x), times(t, whole.y)})
}

// expectedInside returns where p lies in a triangle, by the shares of the corners of which it is the mean.
func expectedInside(t api.Triangle, p api.Point) int {
	a, b, c, q := at(t.A), at(t.B), at(t.C), at(p)
	all := area(a, b, c)
	if all.Sign() == 0 {
		if expectedBetween(a, b, q) || expectedBetween(b, c, q) || expectedBetween(c, a, q) {
			return 0
		}
		return -1
	}
	least := 1
	for _, share := range []*big.Rat{area(q, b, c), area(a, q, c), area(a, b, q)} {
		least = min(least, new(big.Rat).Quo(share, all).Sign())
	}
	return least
}

// checkPoints reports an error if a function of points does not return what the document defines; w, x, y and z are points with the values of a, b, c and d.
func checkPoints(t *testing.T, a, b, c, d, w, x, y, z api.Point) {
	t.Helper()
	if got, want := predicate.Orient(w, x, y), area(at(a), at(b), at(c)).Sign(); got != want {
		t.Errorf("P7.1: Orient of %s: %d", show(a, b, c), got)
	}
	if got, want := predicate.Incircle(w, x, y, z), expectedCircle(a, b, c, d); got != want {
		t.Errorf("P7.1: Incircle of %s: %d", show(a, b, c, d), got)
	}
	if got, want := predicate.Between(w, x, y), expectedBetween(at(a), at(b), at(c)); got != want {
		t.Errorf("P7.1: Between of %s: %t", show(a, b, c), got)
	}
	if got, want := predicate.Inside(api.Triangle{A: w, B: x, C: y}, z), expectedInside(api.Triangle{A: a, B: b, C: c}, d); got != want {
		t.Errorf("P7.1: Inside of %s: %d", show(a, b, c, d), got)
	}
	checkCenter(t, a, b, c, w, x, y)
}

// checkCenter reports an error if Center does not return the only point that is equally far from a, b and c.
func checkCenter(t *testing.T, a, b, c, x, y, z api.Point) {
	t.Helper()
	center, e := predicate.Center(x, y, z)
	if area(at(a), at(b), at(c)).Sign() == 0 {
		if e != api.ErrDegenerate || center != (api.Point{}) {
			t.Errorf("P7.1: Center of %s: %#v, %d", show(a, b, c), center, e)
		}
		return
	}
	far := func(p api.Point) *big.Rat { return at(p).minus(at(center)).length() }
	if e != api.OK || far(a).Cmp(far(b)) != 0 || far(a).Cmp(far(c)) != 0 {
		t.Errorf("P7.1: Center of %s: %s, %d", show(a, b, c), show(center), e)
	}
	if center.X != number(value(center.X)) || center.Y != number(value(center.Y)) {
		t.Errorf("P7.1: Center of %s is not canonical: %#v", show(a, b, c), center)
	}
}

// quadruples calls a check for many quadruples of canonical points.
func quadruples(check func(a, b, c, d api.Point)) {
	for i := range 9 * 9 * 9 * 9 {
		at := func(k int) api.Point { return point(int64(k%3-1), int64(k/3%3-1)) }
		check(at(i), at(i/9), at(i/81), at(i/729))
	}
	r := rand.New(rand.NewSource(1))
	for range 1500 {
		check(small(r), small(r), small(r), small(r))
		check(extreme(r), extreme(r), extreme(r), extreme(r))
		check(random(r, 9), random(r, 9), random(r, 9), random(r, 9))
		a, b := random(r, 5), random(r, 5)
		check(a, b, onLine(r, a, b), onLine(r, a, b))
		a, b, c := small(r), small(r), small(r)
		check(a, b, c, onLine(r, a, b))
		check(a, b, nudged(r, onLine(r, a, b)), nudged(r, onLine(r, b, c)))
	}
}

// small returns a point with small coordinates, some of them fractions.
func small(r *rand.Rand) api.Point {
	return api.Point{X: ratio(int64(r.Intn(13)-6), int64(1+r.Intn(2))), Y: ratio(int64(r.Intn(13)-6), int64(1+r.Intn(2)))}
}

// extremes returns numbers of all sizes: also around the greatest machine integers, and with long denominators.
func extremes() []api.Rat {
	one, tiny := big.NewRat(1, 1), new(big.Rat).Inv(power(200, 0))
	var all []api.Rat
	for _, v := range []*big.Rat{new(big.Rat), one, big.NewRat(1, 2), big.NewRat(5, 3), power(31, -1), power(32, 0), power(63, -1), power(63, 0), power(64, 1), power(200, 1), tiny, plus(tiny, one)} {
		all = append(all, number(v), number(new(big.Rat).Neg(v)))
	}
	return all
}

// extreme returns a point with coordinates of very different sizes.
func extreme(r *rand.Rand) api.Point {
	list := extremes()
	return api.Point{X: list[r.Intn(len(list))], Y: list[r.Intn(len(list))]}
}

// random returns a point whose coordinates have at most n digits in their numerators and denominators.
func random(r *rand.Rand, n int) api.Point {
	coordinate := func() api.Rat {
		num, den := make([]byte, r.Intn(n+1)), make([]byte, 1+r.Intn(n))
		r.Read(num)
		r.Read(den)
		return number(value(api.Rat{Neg: r.Intn(2) == 0, Num: string(num), Den: string(den)}))
	}
	return api.Point{X: coordinate(), Y: coordinate()}
}

// onLine returns a point of the line through a and b, often one between them or one of the ends.
func onLine(r *rand.Rand, a, b api.Point) api.Point {
	t := big.NewRat(int64(r.Intn(13)-3), 6)
	p, step := at(a), at(b).minus(at(a))
	return api.Point{X: number(plus(p.x, times(t, step.x))), Y: number(plus(p.y, times(t, step.y)))}
}

// nudged returns a point that is extremely near to p, or p.
func nudged(r *rand.Rand, p api.Point) api.Point {
	step := new(big.Rat).Quo(big.NewRat(int64(r.Intn(3)-1), 1), power(300, 0))
	if r.Intn(2) == 0 {
		return api.Point{X: number(plus(value(p.X), step)), Y: p.Y}
	}
	return api.Point{X: p.X, Y: number(plus(value(p.Y), step))}
}

func TestPoints(t *testing.T) {
	kind := 0
	quadruples(func(a, b, c, d api.Point) {
		kind++
		checkPoints(t, a, b, c, d, a, b, c, d)
		if kind%4 == 0 {
			checkPoints(t, a, b, c, d, loose(a, kind), loose(b, kind/2), loose(c, kind/3), loose(d, kind/5))
		}
	})
}

func TestLongNumbers(t *testing.T) {
	r := rand.New(rand.NewSource(2))
	for range 3 {
		a, b, c, d := random(r, 300), random(r, 300), random(r, 300), random(r, 300)
		checkPoints(t, a, b, c, d, a, b, c, d)
	}
}

// The examples of the chapter that are about points.
func TestExamples(t *testing.T) {
	a, b, c := point(0, 0), point(2, 0), point(0, 2)
	if predicate.Orient(a, b, c) != 1 || predicate.Orient(b, a, c) != -1 || predicate.Orient(a, b, point(-7, 0)) != 0 {
		t.Error("P7.1: Orient")
	}
	if !predicate.Between(b, c, point(1, 1)) || predicate.Between(b, c, point(3, -1)) || predicate.Between(b, c, point(1, 0)) {
		t.Error("P7.1: Between")
	}
	triangle := api.Triangle{A: a, B: b, C: c}
	if predicate.Inside(triangle, point(1, 1)) != 0 || predicate.Inside(triangle, point(2, 2)) != -1 || predicate.Inside(triangle, api.Point{X: ratio(1, 2), Y: ratio(1, 3)}) != 1 {
		t.Error("P7.1: Inside")
	}
	if center, e := predicate.Center(a, b, c); center != point(1, 1) || e != api.OK {
		t.Errorf("P7.1: Center: %#v, %d", center, e)
	}
	if predicate.Incircle(a, b, c, point(2, 2)) != 0 || predicate.Incircle(a, b, c, point(3, 3)) != -1 || predicate.Incircle(a, b, c, point(1, 1)) != 1 {
		t.Error("P7.1: Incircle")
	}
}

// Segments that are points, and points beyond the ends.
func TestBetweenEnds(t *testing.T) {
	for i, c := range []struct {
		a, b, p api.Point
		want    bool
	}{
		{point(3, 4), point(3, 4), point(3, 4), true},
		{point(3, 4), point(3, 4), point(3, 5), false},
		{point(3, 4), point(3, 4), point(0, 0), false},
		{point(0, 0), point(0, 0), point(0, 0), true},
		{loose(point(3, 4), 2), point(3, 4), loose(point(3, 4), 1), true},
		{point(1, 1), point(4, 4), point(1, 1), true},
		{point(1, 1), point(4, 4), point(4, 4), true},
		{point(1, 1), point(4, 4), point(2, 2), true},
		{point(1, 1), point(4, 4), point(5, 5), false},
		{point(1, 1), point(4, 4), point(0, 0), false},
		{point(1, 1), point(4, 4), point(2, 3), false},
		{point(2, 5), point(2, -5), point(2, 0), true},
		{point(2, 5), point(2, -5), point(2, 6), false},
		{point(2, 5), point(2, -5), point(2, -6), false},
		{point(5, 2), point(-5, 2), point(0, 2), true},
		{point(5, 2), point(-5, 2), point(6, 2), false},
		{point(0, 0), point(3, 1), api.Point{X: ratio(1, 1), Y: ratio(1, 3)}, true},
	} {
		if got := predicate.Between(c.a, c.b, c.p); got != c.want {
			t.Errorf("P7.1: Between, case %d: %t", i, got)
		}
	}
}

func TestTrianglesWithoutArea(t *testing.T) {
	line := api.Triangle{A: point(0, 0), B: point(4, 2), C: point(-2, -1)}
	dot := api.Triangle{A: point(1, 1), B: point(1, 1), C: point(1, 1)}
	folded := api.Triangle{A: point(0, 0), B: point(3, 0), C: point(0, 0)}
	for i, c := range []struct {
		t    api.Triangle
		p    api.Point
		want int
	}{
		{line, point(0, 0), 0}, {line, point(4, 2), 0}, {line, point(-2, -1), 0}, {line, point(2, 1), 0},
		{line, api.Point{X: ratio(-1, 1), Y: ratio(-1, 2)}, 0}, {line, point(6, 3), -1}, {line, point(-4, -2), -1},
		{line, point(1, 1), -1}, {line, point(1, 0), -1},
		{dot, point(1, 1), 0}, {dot, point(1, 2), -1}, {dot, point(0, 0), -1},
		{folded, point(2, 0), 0}, {folded, point(4, 0), -1}, {folded, point(-1, 0), -1}, {folded, point(1, 1), -1}, {folded, point(1, -1), -1},
	} {
		if got := predicate.Inside(c.t, c.p); got != c.want {
			t.Errorf("P7.1: Inside a triangle without area, case %d: %d", i, got)
		}
	}
}

func TestCenterRefuses(t *testing.T) {
	for i, c := range [][3]api.Point{
		{},
		{point(1, 2), point(1, 2), point(1, 2)},
		{point(1, 2), point(1, 2), point(5, 7)},
		{point(1, 2), point(5, 7), point(1, 2)},
		{point(5, 7), point(1, 2), point(1, 2)},
		{point(1, 1), point(2, 2), point(-9, -9)},
		{point(1, 4), point(1, 5), point(1, 9)},
		{loose(point(1, 1), 4), loose(point(2, 2), 3), loose(point(0, 0), 2)},
	} {
		if center, e := predicate.Center(c[0], c[1], c[2]); e != api.ErrDegenerate || center != (api.Point{}) {
			t.Errorf("P7.1: Center, case %d: %#v, %d", i, center, e)
		}
	}
}
