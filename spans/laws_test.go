package spans_test

import (
	"math/big"
	"math/rand"
	"slices"
	"testing"

	"narrows/api"
	"narrows/rational"
	"narrows/spans"
)

// random returns a list of at most n intervals, some of them empty. Their ends are near each other, so that many are equal.
func random(r *rand.Rand, n int) []api.Range {
	list := make([]api.Range, r.Intn(n+1))
	scale := int64(1 + r.Intn(4))
	for i := range list {
		from := int64(r.Intn(40) - 20)
		list[i] = api.Range{From: ratio(from, scale), To: ratio(from-1+int64(r.Intn(6)), scale)}
		if r.Intn(4) == 0 {
			list[i] = api.Range{From: loose(list[i].From), To: loose(list[i].To)}
		}
	}
	return list
}

// randomSet returns the normal set of random intervals.
func randomSet(t *testing.T, r *rand.Rand) []api.Range {
	set, e := spans.Normal(random(r, 8))
	if e != api.OK {
		t.Fatalf("P5.1: Normal: %d", e)
	}
	return set
}

// inside reports whether an interval contains x.
func inside(l []api.Range, x *big.Rat) bool {
	return slices.ContainsFunc(l, func(r api.Range) bool {
		return value(r.From).Cmp(x) <= 0 && x.Cmp(value(r.To)) < 0
	})
}

// probes returns all ends, a number between each two that follow each other, and one beyond each side: all lists with these ends are constant in between.
func probes(lists ...[]api.Range) []*big.Rat {
	one := big.NewRat(1, 1)
	ends := []*big.Rat{new(big.Rat)}
	for _, l := range lists {
		for _, r := range l {
			ends = append(ends, value(r.From), value(r.To))
		}
	}
	slices.SortFunc(ends, (*big.Rat).Cmp)
	all := []*big.Rat{new(big.Rat).Sub(ends[0], one)}
	for i, x := range ends {
		after := new(big.Rat).Add(x, one)
		if i+1 < len(ends) {
			after.Add(x, ends[i+1])
			after.Quo(after, big.NewRat(2, 1))
		}
		all = append(all, x, after)
	}
	return all
}

// normalized reports an error if a result is no set with canonical numbers, or not its own normal form.
func normalized(t *testing.T, call string, set []api.Range) {
	t.Helper()
	if e := spans.Check(set); e != api.OK {
		t.Errorf("P5.6: %s: Check: %d", call, e)
	}
	for _, r := range set {
		if rational.Check(r.From) != api.OK || rational.Check(r.To) != api.OK {
			t.Errorf("P5.6: %s: %#v", call, r)
		}
	}
	for _, l := range [][]api.Range{set, loosened(set)} {
		got, e := spans.Normal(l)
		expect(t, "P5.6: normal form of "+call, got, e, set)
	}
}

func TestMembers(t *testing.T) {
	r := rand.New(rand.NewSource(2))
	for range 600 {
		l := random(r, 12)
		a, e := spans.Normal(l)
		b := randomSet(t, r)
		unite, f := spans.Unite(a, b)
		common, g := spans.Common(a, b)
		without, h := spans.Without(a, b)
		if e != api.OK || f != api.OK || g != api.OK || h != api.OK {
			t.Fatalf("P5.1: %s, %s: %d, %d, %d, %d", show(a), show(b), e, f, g, h)
		}
		for _, x := range probes(l, b, unite, common, without) {
			inA, inB := inside(a, x), inside(b, x)
			if inA != inside(l, x) {
				t.Errorf("P5.2: Normal of %s: %s, at %s", show(l), show(a), x.RatString())
			}
			if inside(unite, x) != (inA || inB) {
				t.Errorf("P5.2: Unite of %s, %s: %s, at %s", show(a), show(b), show(unite), x.RatString())
			}
			if inside(common, x) != (inA && inB) {
				t.Errorf("P5.2: Common of %s, %s: %s, at %s", show(a), show(b), show(common), x.RatString())
			}
			if inside(without, x) != (inA && !inB) {
				t.Errorf("P5.2: Without of %s, %s: %s, at %s", show(a), show(b), show(without), x.RatString())
			}
			if is, e := spans.Has(a, number(x)); is != inA || e != api.OK {
				t.Errorf("P5.2: Has of %s: %t, %d, at %s", show(a), is, e, x.RatString())
			}
		}
		normalized(t, "Normal", a)
		normalized(t, "Unite", unite)
		normalized(t, "Common", common)
		normalized(t, "Without", without)
	}
}

func TestAlgebra(t *testing.T) {
	r := rand.New(rand.NewSource(3))
	unite, common, without := sure(t, spans.Unite), sure(t, spans.Common), sure(t, spans.Without)
	same := func(law string, x, y []api.Range) {
		t.Helper()
		if !slices.Equal(x, y) {
			t.Errorf("P5.3: %s: %s is not %s", law, show(x), show(y))
		}
	}
	for range 600 {
		a, b, c := randomSet(t, r), randomSet(t, r), randomSet(t, r)
		same("a or b", unite(a, b), unite(b, a))
		same("a and b", common(a, b), common(b, a))
		same("a or b or c", unite(unite(a, b), c), unite(a, unite(b, c)))
		same("a and b and c", common(common(a, b), c), common(a, common(b, c)))
		same("a or a", unite(a, a), a)
		same("a and a", common(a, a), a)
		same("a without a", without(a, a), nil)
		same("a and (b or c)", common(a, unite(b, c)), unite(common(a, b), common(a, c)))
		same("a or (b and c)", unite(a, common(b, c)), common(unite(a, b), unite(a, c)))
		same("a without b, and what both have", unite(without(a, b), common(a, b)), a)
		same("both parts of a", common(without(a, b), common(a, b)), nil)
	}
}

// sure returns an operation that must succeed.
func sure(t *testing.T, combine func(a, b []api.Range) ([]api.Range, api.Errno)) func(a, b []api.Range) []api.Range {
	return func(a, b []api.Range) []api.Range {
		t.Helper()
		set, e := combine(a, b)
		if e != api.OK {
			t.Fatalf("P5.1: %s and %s: %d", show(a), show(b), e)
		}
		return set
	}
}

func TestFreeNumbers(t *testing.T) {
	r := rand.New(rand.NewSource(4))
	for range 600 {
		l := randomSet(t, r)
		for _, x := range probes(l) {
			free, e := spans.Free(l, number(x))
			if e != api.OK || rational.Check(free) != api.OK {
				t.Fatalf("P5.1: Free of %s: %#v, %d", show(l), free, e)
			}
			v := value(free)
			if v.Cmp(x) < 0 || inside(l, v) {
				t.Errorf("P5.4: Free of %s from %s: %s", show(l), x.RatString(), v.RatString())
			}
			for _, y := range probes(l, []api.Range{{From: number(x), To: free}}) {
				if y.Cmp(x) >= 0 && y.Cmp(v) < 0 && !inside(l, y) {
					t.Errorf("P5.4: Free of %s from %s: %s, although %s is less", show(l), x.RatString(), v.RatString(), y.RatString())
				}
			}
		}
	}
}

func TestLengths(t *testing.T) {
	r := rand.New(rand.NewSource(5))
	length := func(l []api.Range) api.Rat {
		t.Helper()
		sum, e := spans.Length(l)
		if e != api.OK || rational.Check(sum) != api.OK {
			t.Fatalf("P5.1: Length of %s: %#v, %d", show(l), sum, e)
		}
		return sum
	}
	unite, common := sure(t, spans.Unite), sure(t, spans.Common)
	for range 600 {
		a, b := randomSet(t, r), randomSet(t, r)
		if both, parts := rational.Add(length(unite(a, b)), length(common(a, b))), rational.Add(length(a), length(b)); both != parts {
			t.Errorf("P5.5: lengths of %s and %s: %s is not %s", show(a), show(b), rational.Print(both), rational.Print(parts))
		}
		d := ratio(int64(r.Intn(200)-100), int64(1+r.Intn(9)))
		moved, e := spans.Shift(a, loose(d))
		back, f := spans.Shift(moved, rational.Neg(d))
		if e != api.OK || f != api.OK || !slices.Equal(back, a) || length(moved) != length(a) {
			t.Errorf("P5.5: Shift of %s by %s: %s, %d, and back: %s, %d", show(a), rational.Print(d), show(moved), e, show(back), f)
		}
		normalized(t, "Shift", moved)
		for _, x := range probes(a, moved) {
			if inside(a, x) != inside(moved, new(big.Rat).Add(x, value(d))) {
				t.Errorf("P5.1: Shift of %s by %s: %s, at %s", show(a), rational.Print(d), show(moved), x.RatString())
			}
		}
	}
}

// The results are new lists, and the arguments are not changed.
func TestMemory(t *testing.T) {
	for i, a := range sets() {
		for _, b := range [][]api.Range{nil, intervals(-7, -6, -4, -1, 0, 1), a} {
			keptA, keptB := slices.Clone(a), slices.Clone(b)
			results := make([][]api.Range, 5)
			results[0], _ = spans.Normal(a)
			results[1], _ = spans.Unite(a, b)
			results[2], _ = spans.Common(a, b)
			results[3], _ = spans.Without(a, b)
			results[4], _ = spans.Shift(a, api.Rat{})
			spans.Has(a, whole(0))
			spans.Free(a, whole(0))
			spans.Length(a)
			for _, l := range results {
				clear(l)
			}
			if !slices.Equal(a, keptA) || !slices.Equal(b, keptB) {
				t.Errorf("R3: set %d was changed", i)
			}
		}
	}
	reversed := intervals(5, 6, 3, 4, 9, 9, 1, 2)
	kept := slices.Clone(reversed)
	if spans.Normal(reversed); !slices.Equal(reversed, kept) {
		t.Errorf("R3: the argument of Normal was changed: %s", show(reversed))
	}
}
