package rotation_test

import (
	"cmp"
	"math"
	"math/big"
	"math/rand"
	"testing"

	"narrows/api"
	"narrows/rational"
	"narrows/rotation"
)

// compare compares two rotations.
func compare(t *testing.T, a, b api.Rotation) int {
	t.Helper()
	n, e := rotation.Compare(a, b)
	succeed(t, "Compare", e)
	return n
}

// strictly reports whether x is between a and b, and differs from both.
func strictly(t *testing.T, a, x, b api.Rotation) bool {
	t.Helper()
	in, e := rotation.Between(a, x, b)
	succeed(t, "Between", e)
	return in && x != a && x != b
}

func TestCompare(t *testing.T) {
	list := samples()
	for i, a := range list {
		for k, b := range list {
			if n := compare(t, a, b); n != cmp.Compare(i, k) {
				t.Errorf("P4.5: Compare(%s; %s): %d", show(a), show(b), n)
			}
		}
	}
}

// order compares the angles of the rotations with two tangents of half their angles: half the angle reaches a right angle, where the tangent jumps to negative numbers.
func order(a, b api.Rat) int {
	if a.Neg != b.Neg {
		if b.Neg {
			return -1
		}
		return 1
	}
	return value(a).Cmp(value(b))
}

func TestCompareAgreesWithTangents(t *testing.T) {
	r := rand.New(rand.NewSource(6))
	for range 3000 {
		a, b := random(r, 2), random(r, 2)
		if r.Intn(4) == 0 {
			b = rational.Add(a, number(small(uint(r.Intn(90)))))
		}
		if n := compare(t, rotation.Of(a), rotation.Of(b)); n != order(a, b) {
			t.Errorf("P4.5: Compare(Of(%s), Of(%s)): %d", rational.Print(a), rational.Print(b), n)
		}
	}
}

// Machine numbers are exact enough for rotations that are not close to each other.
func TestCompareAgreesWithAngles(t *testing.T) {
	for i := range 72 {
		for k := range 72 {
			a, b := near(i), near(k)
			if n := compare(t, a, b); n != cmp.Compare(i, k) {
				t.Errorf("P4.5: Compare(%s; %s): %d", show(a), show(b), n)
			}
		}
	}
}

// near returns a rotation by about 5 * i degrees, and 1 degree.
func near(i int) api.Rotation {
	tangent := math.Tan(float64(5*i+1) * math.Pi / 360)
	return rotation.Of(ratio(int64(math.Round(tangent*1000)), 1000))
}

func TestTotalOrder(t *testing.T) {
	r := rand.New(rand.NewSource(7))
	for range 2000 {
		a, b, c := rotation.Of(random(r, 3)), rotation.Of(random(r, 3)), rotation.Of(random(r, 3))
		ab, bc := compare(t, a, b), compare(t, b, c)
		if ab != -compare(t, b, a) || (ab == 0) != (a == b) {
			t.Errorf("P4.5: Compare(%s; %s): %d", show(a), show(b), ab)
		}
		if ab == bc && compare(t, a, c) != ab {
			t.Errorf("P4.5: not transitive: %s; %s; %s", show(a), show(b), show(c))
		}
		if a != b && b != c && c != a && strictly(t, a, c, b) == strictly(t, b, c, a) {
			t.Errorf("P4.5: Between for %s; %s; %s", show(a), show(b), show(c))
		}
	}
}

// checkBetween reports an error if Between is not what follows from three places in a list of different rotations, which is closed to a circle.
func checkBetween(t *testing.T, list []api.Rotation, i, j, k int) {
	t.Helper()
	n, a, x, b := len(list), list[i], list[j], list[k]
	in, e := rotation.Between(a, x, b)
	if in != ((j-i+n)%n <= (k-i+n)%n) || e != api.OK {
		t.Errorf("P4.1: Between(%s; %s; %s): %t, %d", show(a), show(x), show(b), in, e)
	}
	if i != j && j != k && k != i && strictly(t, a, x, b) == strictly(t, b, x, a) {
		t.Errorf("P4.5: Between for %s; %s; %s", show(a), show(b), show(x))
	}
}

func TestBetween(t *testing.T) {
	list := circle([]*big.Rat{new(big.Rat), small(70), big.NewRat(1, 2), big.NewRat(1, 1), new(big.Rat).Inv(small(70))})
	for i := range list {
		for j := range list {
			for k := range list {
				checkBetween(t, list, i, j, k)
			}
		}
	}
}

func TestBetweenOfCloseRotations(t *testing.T) {
	r, list := rand.New(rand.NewSource(10)), samples()
	for range 5000 {
		checkBetween(t, list, r.Intn(len(list)), r.Intn(len(list)), r.Intn(len(list)))
	}
}

// expectedMiddle returns what the document defines for two different rotations.
func expectedMiddle(t *testing.T, a, b api.Rotation) api.Rotation {
	t.Helper()
	// The inverse of a is its mirror image.
	step := product(api.Rotation{Cos: a.Cos, Sin: number(new(big.Rat).Neg(value(a.Sin)))}, b)
	if value(step.Sin).Sign() <= 0 {
		return product(a, at(0, 1, 1))
	}
	tangent := value(step.Cos)
	tangent.Quo(value(step.Sin), tangent.Add(tangent, big.NewRat(1, 1)))
	third := new(big.Rat).Mul(tangent, big.NewRat(1, 3))
	s, e := rational.Simplest(number(third), number(new(big.Rat).Add(third, third)))
	succeed(t, "Simplest", e)
	return product(a, turned(value(s)))
}

// checkMiddle reports an error if the middle of two different rotations is not the one that the document defines.
func checkMiddle(t *testing.T, a, b api.Rotation) {
	t.Helper()
	m, e := rotation.Middle(a, b)
	succeed(t, "Middle", e)
	same(t, "P4.1: Middle of "+show(a)+"; "+show(b), m, expectedMiddle(t, a, b))
	if rotation.Check(m) != api.OK || !strictly(t, a, m, b) || strictly(t, b, m, a) {
		t.Errorf("P4.6: Middle(%s; %s): %s", show(a), show(b), show(m))
	}
}

func TestMiddle(t *testing.T) {
	for i, a := range samples() {
		for k, b := range samples() {
			if i != k {
				checkMiddle(t, a, b)
			} else if m, e := rotation.Middle(a, b); m != (api.Rotation{}) || e != api.ErrDegenerate {
				t.Errorf("P4.1: Middle(%s; %s): %s, %d", show(a), show(b), show(m), e)
			}
		}
	}
}

func TestMiddleOfRandomRotations(t *testing.T) {
	r := rand.New(rand.NewSource(8))
	for range 1000 {
		if a, b := rotation.Of(random(r, 5)), rotation.Of(random(r, 5)); a != b {
			checkMiddle(t, a, b)
		}
	}
}

func TestMiddleOfQuarters(t *testing.T) {
	quarters := []api.Rotation{at(1, 0, 1), at(0, 1, 1), at(-1, 0, 1), at(0, -1, 1)}
	steps := []api.Rotation{{}, at(3, 4, 5), at(0, 1, 1), at(0, 1, 1)}
	for i, a := range quarters {
		for k := 1; k < 4; k++ {
			m, e := rotation.Middle(a, quarters[(i+k)%4])
			succeed(t, "Middle", e)
			same(t, "P4.1: Middle of quarters", m, product(a, steps[k]))
		}
	}
}

// Halving again and again stays between both rotations, however close they are.
func TestMiddleOfMiddles(t *testing.T) {
	a, b := at(-7, 24, 25), at(24, 7, 25)
	for i := range 40 {
		checkMiddle(t, a, b)
		m, e := rotation.Middle(a, b)
		succeed(t, "Middle", e)
		if i%3 == 0 {
			a = m
		} else {
			b = m
		}
	}
}

func TestLongRotations(t *testing.T) {
	r := rand.New(rand.NewSource(9))
	x, y := random(r, 1500), random(r, 1500)
	a, b := rotation.Of(x), rotation.Of(y)
	ab, e := rotation.Then(a, b)
	succeed(t, "Then", e)
	same(t, "P4.1: Then", ab, product(a, b))
	if n := compare(t, a, b); n != order(x, y) {
		t.Errorf("P4.5: Compare: %d", n)
	}
	checkMiddle(t, a, b)
}
