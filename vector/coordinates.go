package vector

import (
	"narrows/api"
	"narrows/rational"
)

// combine returns the point with the coordinates that a function makes of those of p and q.
func combine(p, q api.Point, both func(a, b api.Rat) api.Rat) api.Point {
	return api.Point{X: both(p.X, q.X), Y: both(p.Y, q.Y)}
}

// extremes returns the least and the greatest one of any numbers, as canonical numbers. The first one stands by itself, so that there is always one.
func extremes(first api.Rat, others ...api.Rat) (least, greatest api.Rat) {
	least, greatest = first, first
	for _, r := range others {
		if rational.Compare(r, least) < 0 {
			least = r
		}
		if rational.Compare(r, greatest) > 0 {
			greatest = r
		}
	}
	return canonical(least), canonical(greatest)
}

// canonical returns the canonical number with the value of r: sums are canonical.
func canonical(r api.Rat) api.Rat {
	return rational.Add(r, api.Rat{})
}

// inOrder reports whether r is from low to high.
func inOrder(low, r, high api.Rat) bool {
	return rational.Compare(low, r) <= 0 && rational.Compare(r, high) <= 0
}
