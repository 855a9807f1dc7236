package predicate

import (
	"slices"

	"narrows/api"
	"narrows/rational"
	"narrows/vector"
)

// half returns 1 for a direction from 0 to less than 180 degrees, 2 for the other half of the full turn, and 0 for the zero vector.
func half(v api.Point) int {
	x, y := rational.Sign(v.X), rational.Sign(v.Y)
	switch {
	case x == 0 && y == 0:
		return 0
	case y > 0 || y == 0 && x > 0:
		return 1
	}
	return 2
}

// byDirection compares vectors by their directions, then by their lengths.
func byDirection(u, v api.Point) int {
	if order := Angle(u, v); order != 0 {
		return order
	}
	return rational.Compare(vector.Dot(u, u), vector.Dot(v, v))
}

// sorted returns the elements of a list in an order; equal ones stay in their order.
func sorted[T any](l []T, order func(a, b T) int) []T {
	result := slices.Clone(l)
	slices.SortStableFunc(result, order)
	return result
}
