package spans

import (
	"iter"

	"narrows/api"
	"narrows/rational"
)

// state says which of two sets contain the numbers from an end up to the next one.
type state struct{ inA, inB bool }

// ends yields the ends of the intervals of two sets in ascending order, each number once, with the state that begins there.
func ends(a, b []api.Range) iter.Seq2[api.Rat, state] {
	return func(yield func(api.Rat, state) bool) {
		x, y := numbers(a), numbers(b)
		for i, j := 0, 0; i < len(x) || j < len(y); {
			var at api.Rat
			order := compareFirst(x[i:], y[j:])
			if order <= 0 {
				at = x[i]
				i++
			}
			if order >= 0 {
				at = y[j]
				j++
			}
			// Each interval has two ends, so an odd number of them leaves one open.
			if !yield(at, state{i%2 == 1, j%2 == 1}) {
				return
			}
		}
	}
}

// numbers returns the ends of the intervals of a set in ascending order.
func numbers(l []api.Range) []api.Rat {
	list := make([]api.Rat, 0, 2*len(l))
	for _, r := range l {
		list = append(list, r.From, r.To)
	}
	return list
}

// compareFirst compares the first numbers of two lists. The end of a list counts as greater than all numbers.
func compareFirst(x, y []api.Rat) int {
	if len(x) == 0 {
		return 1
	}
	if len(y) == 0 {
		return -1
	}
	return rational.Compare(x[0], y[0])
}

// merge returns the set of the numbers that belong to the result, with ends of both sets. Numbers that are in neither set must not belong to it.
func merge(a, b []api.Range, belongs func(inA, inB bool) bool) []api.Range {
	var set []api.Range
	inside := false
	for at, s := range ends(a, b) {
		if belongs(s.inA, s.inB) == inside {
			continue
		}
		if inside {
			set[len(set)-1].To = at
		} else {
			set = append(set, api.Range{From: at})
		}
		inside = !inside
	}
	return set
}

// combine returns what merge does, with canonical numbers, if the arguments are sets and the result is not too long.
func combine(a, b []api.Range, belongs func(inA, inB bool) bool) ([]api.Range, api.Errno) {
	if Check(a) != api.OK || Check(b) != api.OK {
		return nil, api.ErrArgument
	}
	set := merge(a, b, belongs)
	if len(set) > api.MaxRanges {
		return nil, api.ErrLimit
	}
	return shifted(set, api.Rat{}), api.OK
}

// either reports whether a number is in one of two sets.
func either(inA, inB bool) bool {
	return inA || inB
}

// union returns the set of any intervals. Their halves are sets before they are merged.
func union(l []api.Range) []api.Range {
	switch {
	case len(l) > 1:
		half := len(l) / 2
		return merge(union(l[:half]), union(l[half:]), either)
	case len(l) == 1 && !empty(l[0]):
		return l
	}
	return nil
}
