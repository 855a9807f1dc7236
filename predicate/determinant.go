package predicate

import (
	"narrows/api"
	"narrows/rational"
	"narrows/vector"
)

// row is a row of the determinant of four points: the vector from the last point to another one, and the square of its length.
type row struct {
	v      api.Point
	square api.Rat
}

// determinant returns the determinant of three rows, developed along the column of the squares.
func determinant(rows [3]row) api.Rat {
	var sum api.Rat
	for i, r := range rows {
		next, last := rows[(i+1)%3], rows[(i+2)%3]
		sum = rational.Add(sum, rational.Mul(r.square, vector.Cross(next.v, last.v)))
	}
	return sum
}
