package rotation

import (
	"cmp"

	"narrows/api"
	"narrows/rational"
)

// Both halves of the full turn, each without its end.
const (
	first  = 0
	second = 1
)

// trend has for each half of the full turn whether the cosine falls or rises while the angle grows.
var trend = [...]int{-1, 1}

// half returns the half of the full turn in which the angle of r is.
func half(r api.Rotation) int {
	sine := rational.Sign(r.Sin)
	if sine < 0 || sine == 0 && rational.Sign(r.Cos) < 0 {
		return second
	}
	return first
}

// compare compares the angles of two rotations. Within a half, different angles have different cosines.
func compare(a, b api.Rotation) int {
	if half(a) != half(b) {
		return cmp.Compare(half(a), half(b))
	}
	return trend[half(a)] * rational.Compare(a.Cos, b.Cos)
}

// valid reports whether all are rotations.
func valid(rotations ...api.Rotation) bool {
	for _, r := range rotations {
		if Check(r) != api.OK {
			return false
		}
	}
	return true
}

// then returns the rotation by a and then by b.
func then(a, b api.Rotation) api.Rotation {
	image := apply(a, api.Point{X: b.Cos, Y: b.Sin})
	return api.Rotation{Cos: image.X, Sin: image.Y}
}

// back returns the inverse rotation.
func back(r api.Rotation) api.Rotation {
	return api.Rotation{Cos: r.Cos, Sin: rational.Neg(r.Sin)}
}

// turn returns the rotation from a to b.
func turn(a, b api.Rotation) api.Rotation {
	return then(back(a), b)
}

// apply returns the image of p.
func apply(r api.Rotation, p api.Point) api.Point {
	return api.Point{
		X: sum(rational.Mul(r.Cos, p.X), rational.Neg(rational.Mul(r.Sin, p.Y))),
		Y: sum(rational.Mul(r.Sin, p.X), rational.Mul(r.Cos, p.Y)),
	}
}

// tangent returns the tangent of half the angle of r, which is not a half turn.
func tangent(r api.Rotation) api.Rat {
	return over(r.Sin, sum(rational.Of(1), r.Cos))
}

// part returns a simple rotation by an angle that is greater than 0 and less than that of r, which is not 0.
func part(r api.Rotation) api.Rotation {
	if half(r) != first {
		return Of(rational.Of(1))
	}
	third := over(tangent(r), rational.Of(3))
	s, _ := rational.Simplest(third, sum(third, third))
	return Of(s)
}

// sum returns the sum of numbers.
func sum(terms ...api.Rat) api.Rat {
	var total api.Rat
	for _, t := range terms {
		total = rational.Add(total, t)
	}
	return total
}

// square returns r * r.
func square(r api.Rat) api.Rat {
	return rational.Mul(r, r)
}

// over returns a / b, where b is not 0.
func over(a, b api.Rat) api.Rat {
	quotient, _ := rational.Quo(a, b)
	return quotient
}
