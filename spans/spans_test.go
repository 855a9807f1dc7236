package spans_test

import (
	"math/big"
	"math/rand"
	"slices"
	"strings"
	"testing"

	"narrows/api"
	"narrows/spans"
)

// value returns the value of a number, canonical or not.
func value(r api.Rat) *big.Rat {
	num, den := new(big.Int).SetBytes([]byte(r.Num)), new(big.Int).SetBytes([]byte(r.Den))
	if den.Sign() == 0 {
		den.SetInt64(1)
	}
	v := new(big.Rat).SetFrac(num, den)
	if r.Neg {
		v.Neg(v)
	}
	return v
}

// number returns the canonical number with a value.
func number(v *big.Rat) api.Rat {
	r := api.Rat{Neg: v.Sign() < 0, Num: string(v.Num().Bytes())}
	if !v.IsInt() {
		r.Den = string(v.Denom().Bytes())
	}
	return r
}

// ratio returns the number n / d.
func ratio(n, d int64) api.Rat {
	return number(big.NewRat(n, d))
}

// whole returns the number n.
func whole(n int64) api.Rat {
	return ratio(n, 1)
}

// intervals returns the intervals with these integers as ends, each with From and To.
func intervals(ends ...int64) []api.Range {
	var list []api.Range
	for i := 0; i < len(ends); i += 2 {
		list = append(list, api.Range{From: whole(ends[i]), To: whole(ends[i+1])})
	}
	return list
}

// comb returns n intervals of a length, one from each multiple of a distance, from 0 on.
func comb(n int, length, distance int64) []api.Range {
	var list []api.Range
	for i := range int64(n) {
		list = append(list, intervals(i*distance, i*distance+length)...)
	}
	return list
}

// huge returns 2^4000 + n.
func huge(n int64) api.Rat {
	return api.Rat{Num: string(new(big.Int).Add(new(big.Int).Lsh(big.NewInt(1), 4000), big.NewInt(n)).Bytes())}
}

// loose returns a number with the value of r that is not canonical.
func loose(r api.Rat) api.Rat {
	v := value(r)
	num, den := new(big.Int).Mul(v.Num(), big.NewInt(6)), new(big.Int).Mul(v.Denom(), big.NewInt(6))
	if v.Sign() == 0 {
		return api.Rat{Neg: true, Num: "\x00\x00", Den: "\x00"}
	}
	return api.Rat{Neg: r.Neg, Num: "\x00" + string(num.Abs(num).Bytes()), Den: "\x00" + string(den.Bytes())}
}

// loosened returns the same intervals with numbers that are not canonical.
func loosened(l []api.Range) []api.Range {
	var list []api.Range
	for _, r := range l {
		list = append(list, api.Range{From: loose(r.From), To: loose(r.To)})
	}
	return list
}

// show returns a text of intervals.
func show(l []api.Range) string {
	var parts []string
	for _, r := range l {
		parts = append(parts, value(r.From).RatString()+" to "+value(r.To).RatString())
	}
	if len(parts) > 9 {
		parts = append(parts[:9], "...")
	}
	return "[" + strings.Join(parts, ", ") + "]"
}

// invalid returns lists that are no sets, each with what Check must return for it.
func invalid() []struct {
	l []api.Range
	e api.Errno
} {
	long := comb(api.MaxRanges+1, 1, 2)
	longEmpty := slices.Clone(long)
	longEmpty[0] = api.Range{}
	return []struct {
		l []api.Range
		e api.Errno
	}{
		{long, api.ErrLimit},
		{longEmpty, api.ErrLimit},
		{comb(api.MaxRanges+1, 2, 2), api.ErrLimit},
		{make([]api.Range, api.MaxRanges+1), api.ErrLimit},
		{make([]api.Range, 1), api.ErrRange},
		{make([]api.Range, api.MaxRanges), api.ErrRange},
		{intervals(1, 1), api.ErrRange},
		{intervals(2, 1), api.ErrRange},
		{intervals(0, 1, 3, 3), api.ErrRange},
		{intervals(0, 1, 3, 2, 5, 6), api.ErrRange},
		{[]api.Range{{From: api.Rat{Neg: true, Num: "\x00"}, To: api.Rat{Den: "\x05"}}}, api.ErrRange},
		{[]api.Range{{From: ratio(1, 2), To: api.Rat{Num: "\x02", Den: "\x04"}}}, api.ErrRange},
		{[]api.Range{{From: huge(1), To: huge(0)}}, api.ErrRange},
		{intervals(0, 1, 1, 2), api.ErrOrder},
		{intervals(0, 2, 1, 3), api.ErrOrder},
		{intervals(4, 5, 0, 1), api.ErrOrder},
		{intervals(0, 1, 0, 1), api.ErrOrder},
		{intervals(0, 9, 2, 3), api.ErrOrder},
		{[]api.Range{{From: whole(0), To: ratio(1, 2)}, {From: api.Rat{Num: "\x02", Den: "\x04"}, To: whole(1)}}, api.ErrOrder},
		{[]api.Range{{From: huge(0), To: huge(1)}, {From: huge(1), To: huge(2)}}, api.ErrOrder},
		// The first interval that has an error counts, and ErrRange comes before ErrOrder.
		{intervals(0, 1, 1, 2, 4, 4), api.ErrOrder},
		{intervals(0, 1, 3, 3, 2, 4), api.ErrRange},
		{intervals(2, 4, 3, 3), api.ErrRange},
		{append(comb(api.MaxRanges-1, 1, 2), intervals(1997, 2000)...), api.ErrOrder},
		{append(comb(api.MaxRanges-1, 1, 2), intervals(2000, 2000)...), api.ErrRange},
	}
}

// sets returns sets with canonical numbers.
func sets() [][]api.Range {
	return [][]api.Range{
		nil,
		{},
		intervals(0, 1),
		intervals(-1, 0),
		intervals(0, 2, 3, 5),
		intervals(-5, -4, -2, 0, 1, 7),
		{{From: ratio(-7, 3), To: ratio(-1, 2)}, {From: ratio(-1, 3), To: ratio(1, 1000)}, {From: ratio(2, 1000), To: whole(1 << 60)}},
		{{From: number(new(big.Rat).Neg(value(huge(0)))), To: whole(0)}, {From: huge(0), To: huge(1)}, {From: huge(2), To: huge(3)}},
		comb(api.MaxRanges, 1, 2),
		comb(api.MaxRanges, 3, 4),
	}
}

// expect reports an error if a call did not return OK and the set that is wanted.
func expect(t *testing.T, call string, got []api.Range, e api.Errno, want []api.Range) {
	t.Helper()
	if e != api.OK || !slices.Equal(got, want) {
		t.Errorf("%s: %s, %d instead of %s", call, show(got), e, show(want))
	}
}

func TestCheck(t *testing.T) {
	for i, c := range invalid() {
		if e := spans.Check(c.l); e != c.e {
			t.Errorf("P5.1: Check of invalid %d: %d instead of %d", i, e, c.e)
		}
		if len(c.l) <= api.MaxRanges {
			if e := spans.Check(loosened(c.l)); e != c.e {
				t.Errorf("P5.1: Check of invalid %d with other numbers: %d instead of %d", i, e, c.e)
			}
		}
	}
	for i, l := range sets() {
		if e, f := spans.Check(l), spans.Check(loosened(l)); e != api.OK || f != api.OK {
			t.Errorf("P5.1: Check of set %d: %d, %d", i, e, f)
		}
	}
}

func TestNormal(t *testing.T) {
	for i, c := range []struct{ l, want []api.Range }{
		{nil, nil},
		{[]api.Range{{}}, nil},
		{intervals(3, 3, 2, 1, 5, -5), nil},
		{intervals(0, 1), intervals(0, 1)},
		{intervals(3, 5, 0, 2), intervals(0, 2, 3, 5)},
		{intervals(0, 1, 1, 2), intervals(0, 2)},
		{intervals(1, 2, 0, 1), intervals(0, 2)},
		{intervals(0, 1, 0, 1, 0, 1), intervals(0, 1)},
		{intervals(0, 9, 2, 3, 4, 5), intervals(0, 9)},
		{intervals(2, 3, 4, 5, 0, 9), intervals(0, 9)},
		{intervals(0, 3, 2, 5, 4, 7, 9, 10), intervals(0, 7, 9, 10)},
		{intervals(0, 1, 2, 3, 1, 2, 7, 3), intervals(0, 3)},
		{intervals(-3, -1, 9, 0, -2, 0, 0, 0, 5, 6), intervals(-3, 0, 5, 6)},
		{[]api.Range{{From: huge(1), To: huge(2)}, {From: huge(0), To: huge(1)}}, []api.Range{{From: huge(0), To: huge(2)}}},
	} {
		got, e := spans.Normal(c.l)
		expect(t, "P5.1: Normal of "+show(c.l), got, e, c.want)
		got, e = spans.Normal(loosened(c.l))
		expect(t, "P5.6: Normal with other numbers, "+show(c.l), got, e, c.want)
		if t.Failed() {
			t.Fatalf("case %d", i)
		}
	}
}

func TestNormalOfLongLists(t *testing.T) {
	long := comb(api.MaxRanges, 1, 1)
	slices.Reverse(long)
	got, e := spans.Normal(long)
	expect(t, "P5.1: Normal of a chain", got, e, intervals(0, api.MaxRanges))
	apart := comb(api.MaxRanges, 1, 2)
	want := slices.Clone(apart)
	rand.New(rand.NewSource(1)).Shuffle(len(apart), func(i, j int) { apart[i], apart[j] = apart[j], apart[i] })
	got, e = spans.Normal(apart)
	expect(t, "P5.1: Normal of a comb", got, e, want)
	got, e = spans.Normal(make([]api.Range, api.MaxRanges))
	expect(t, "P5.1: Normal of empty intervals", got, e, nil)
	for _, l := range [][]api.Range{append(long, api.Range{}), make([]api.Range, api.MaxRanges+1), comb(2*api.MaxRanges, 2, 1)} {
		if got, e := spans.Normal(l); len(got) != 0 || e != api.ErrLimit {
			t.Errorf("P5.1: Normal of %d intervals: %s, %d", len(l), show(got), e)
		}
	}
}

func TestOperations(t *testing.T) {
	for _, c := range []struct{ a, b, unite, common, without []api.Range }{
		{nil, nil, nil, nil, nil},
		{nil, intervals(0, 1), intervals(0, 1), nil, nil},
		{intervals(0, 1), nil, intervals(0, 1), nil, intervals(0, 1)},
		{intervals(0, 1), intervals(0, 1), intervals(0, 1), intervals(0, 1), nil},
		{intervals(0, 2, 3, 5), intervals(2, 3), intervals(0, 5), nil, intervals(0, 2, 3, 5)},
		{intervals(0, 2, 3, 5), intervals(1, 4), intervals(0, 5), intervals(1, 2, 3, 4), intervals(0, 1, 4, 5)},
		{intervals(1, 4), intervals(0, 2, 3, 5), intervals(0, 5), intervals(1, 2, 3, 4), intervals(2, 3)},
		{intervals(0, 9), intervals(2, 3, 5, 7), intervals(0, 9), intervals(2, 3, 5, 7), intervals(0, 2, 3, 5, 7, 9)},
		{intervals(0, 1), intervals(1, 2), intervals(0, 2), nil, intervals(0, 1)},
		{intervals(1, 2), intervals(0, 1), intervals(0, 2), nil, intervals(1, 2)},
		{intervals(0, 1), intervals(5, 6), intervals(0, 1, 5, 6), nil, intervals(0, 1)},
		{intervals(5, 6), intervals(0, 1), intervals(0, 1, 5, 6), nil, intervals(5, 6)},
		{intervals(0, 5), intervals(0, 2), intervals(0, 5), intervals(0, 2), intervals(2, 5)},
		{intervals(0, 5), intervals(3, 5), intervals(0, 5), intervals(3, 5), intervals(0, 3)},
		{intervals(0, 1, 2, 3, 4, 5), intervals(1, 2, 3, 4, 5, 6), intervals(0, 6), nil, intervals(0, 1, 2, 3, 4, 5)},
		{intervals(0, 2, 4, 6), intervals(1, 3, 5, 7), intervals(0, 3, 4, 7), intervals(1, 2, 5, 6), intervals(0, 1, 4, 5)},
		{[]api.Range{{From: ratio(1, 3), To: ratio(1, 2)}}, []api.Range{{From: ratio(2, 5), To: ratio(3, 7)}}, []api.Range{{From: ratio(1, 3), To: ratio(1, 2)}},
			[]api.Range{{From: ratio(2, 5), To: ratio(3, 7)}}, []api.Range{{From: ratio(1, 3), To: ratio(2, 5)}, {From: ratio(3, 7), To: ratio(1, 2)}}},
	} {
		call := show(c.a) + " and " + show(c.b)
		for _, a := range [][]api.Range{c.a, loosened(c.a)} {
			for _, b := range [][]api.Range{c.b, loosened(c.b)} {
				got, e := spans.Unite(a, b)
				expect(t, "P5.1: Unite, "+call, got, e, c.unite)
				got, e = spans.Common(a, b)
				expect(t, "P5.1: Common, "+call, got, e, c.common)
				got, e = spans.Without(a, b)
				expect(t, "P5.1: Without, "+call, got, e, c.without)
			}
		}
	}
}

// Sets with as many intervals as there can be, and one more.
func TestLimits(t *testing.T) {
	full := comb(api.MaxRanges, 3, 4)
	end := int64(4 * api.MaxRanges)
	for _, c := range []struct {
		name    string
		combine func(a, b []api.Range) ([]api.Range, api.Errno)
		a, b    []api.Range
		want    int
	}{
		{"Unite", spans.Unite, full, intervals(end, end+1), -1},
		{"Unite", spans.Unite, full, intervals(-2, -1), -1},
		{"Unite", spans.Unite, intervals(-2, -1), full, -1},
		{"Unite", spans.Unite, full[:500], full[500:], api.MaxRanges},
		{"Unite", spans.Unite, full[:501], full[500:], api.MaxRanges},
		{"Unite", spans.Unite, full, intervals(end-1, end), api.MaxRanges},
		{"Unite", spans.Unite, full, intervals(0, end), 1},
		{"Unite", spans.Unite, full, full, api.MaxRanges},
		{"Common", spans.Common, full, intervals(0, 1, 2, end), -1},
		{"Common", spans.Common, intervals(0, 1, 2, end), full, -1},
		{"Common", spans.Common, full, intervals(-5, -4, 0, end), api.MaxRanges},
		{"Common", spans.Common, full, comb(api.MaxRanges, 1, 4), api.MaxRanges},
		{"Without", spans.Without, full, intervals(1, 2), -1},
		{"Without", spans.Without, full, intervals(0, 1), api.MaxRanges},
		{"Without", spans.Without, full, intervals(-9, -8), api.MaxRanges},
		{"Without", spans.Without, intervals(-1, end), full, -1},
		{"Without", spans.Without, intervals(0, end), full, api.MaxRanges},
		{"Without", spans.Without, full, full, 0},
	} {
		got, e := c.combine(c.a, c.b)
		if c.want < 0 && (e != api.ErrLimit || len(got) != 0) {
			t.Errorf("P5.1: %s, %s and %s: %d intervals, %d instead of ErrLimit", c.name, show(c.a), show(c.b), len(got), e)
		}
		if c.want >= 0 && (e != api.OK || len(got) != c.want) {
			t.Errorf("P5.1: %s, %s and %s: %d intervals, %d instead of %d", c.name, show(c.a), show(c.b), len(got), e, c.want)
		}
	}
}

func TestInvalidArguments(t *testing.T) {
	good := intervals(0, 1, 4, 5)
	for i, c := range invalid() {
		for _, combine := range []func(a, b []api.Range) ([]api.Range, api.Errno){spans.Unite, spans.Common, spans.Without} {
			for _, pair := range [][2][]api.Range{{c.l, good}, {good, c.l}, {c.l, c.l}, {nil, c.l}, {c.l, nil}} {
				if got, e := combine(pair[0], pair[1]); len(got) != 0 || e != api.ErrArgument {
					t.Errorf("P5.1: union, intersection or difference with invalid %d: %s, %d", i, show(got), e)
				}
			}
		}
		for _, x := range []api.Rat{{}, whole(1), huge(0)} {
			if is, e := spans.Has(c.l, x); is || e != api.ErrArgument {
				t.Errorf("P5.1: Has of invalid %d: %t, %d", i, is, e)
			}
			if got, e := spans.Free(c.l, x); got != (api.Rat{}) || e != api.ErrArgument {
				t.Errorf("P5.1: Free of invalid %d: %v, %d", i, value(got), e)
			}
			if got, e := spans.Shift(c.l, x); len(got) != 0 || e != api.ErrArgument {
				t.Errorf("P5.1: Shift of invalid %d: %s, %d", i, show(got), e)
			}
		}
		if got, e := spans.Length(c.l); got != (api.Rat{}) || e != api.ErrArgument {
			t.Errorf("P5.1: Length of invalid %d: %v, %d", i, value(got), e)
		}
	}
}

func TestHasAndFree(t *testing.T) {
	l := []api.Range{{From: whole(-3), To: ratio(-1, 2)}, {From: whole(0), To: whole(2)}, {From: ratio(7, 3), To: whole(4)}, {From: huge(0), To: huge(9)}}
	for _, c := range []struct {
		x, free api.Rat
		has     bool
	}{
		{whole(-4), whole(-4), false},
		{whole(-3), ratio(-1, 2), true},
		{ratio(-2, 3), ratio(-1, 2), true},
		{ratio(-1, 2), ratio(-1, 2), false},
		{ratio(-1, 3), ratio(-1, 3), false},
		{whole(0), whole(2), true},
		{whole(1), whole(2), true},
		{whole(2), whole(2), false},
		{ratio(7, 3), whole(4), true},
		{ratio(69, 30), ratio(23, 10), false},
		{whole(4), whole(4), false},
		{whole(99), whole(99), false},
		{huge(-1), huge(-1), false},
		{huge(0), huge(9), true},
		{huge(8), huge(9), true},
		{huge(9), huge(9), false},
		{huge(10), huge(10), false},
	} {
		for _, set := range [][]api.Range{l, loosened(l)} {
			for _, x := range []api.Rat{c.x, loose(c.x)} {
				if is, e := spans.Has(set, x); is != c.has || e != api.OK {
					t.Errorf("P5.1: Has(%s): %t, %d", value(x).RatString(), is, e)
				}
				if free, e := spans.Free(set, x); free != c.free || e != api.OK {
					t.Errorf("P5.1: Free(%s): %s, %d", value(x).RatString(), value(free).RatString(), e)
				}
			}
		}
		if is, e := spans.Has(nil, c.x); is || e != api.OK {
			t.Errorf("P5.1: Has of no interval: %t, %d", is, e)
		}
		if free, e := spans.Free(nil, loose(c.x)); free != c.x || e != api.OK {
			t.Errorf("P5.1: Free of no interval: %s, %d", value(free).RatString(), e)
		}
	}
}

func TestLengthAndShift(t *testing.T) {
	thirds := []api.Range{{From: ratio(-1, 3), To: ratio(1, 2)}, {From: ratio(2, 3), To: whole(1)}}
	for _, c := range []struct {
		l      []api.Range
		length api.Rat
		d      api.Rat
		want   []api.Range
	}{
		{nil, api.Rat{}, whole(5), nil},
		{intervals(0, 1), whole(1), whole(0), intervals(0, 1)},
		{intervals(-4, -2, -1, 3), whole(6), whole(1), intervals(-3, -1, 0, 4)},
		{intervals(0, 2, 3, 5), whole(4), whole(-3), intervals(-3, -1, 0, 2)},
		{intervals(0, 1), whole(1), ratio(-1, 2), []api.Range{{From: ratio(-1, 2), To: ratio(1, 2)}}},
		{thirds, ratio(7, 6), ratio(1, 3), []api.Range{{From: whole(0), To: ratio(5, 6)}, {From: whole(1), To: ratio(4, 3)}}},
		{[]api.Range{{From: huge(0), To: huge(3)}}, whole(3), number(new(big.Rat).Neg(value(huge(1)))), intervals(-1, 2)},
		{comb(api.MaxRanges, 3, 4), whole(3 * api.MaxRanges), whole(4), comb(api.MaxRanges+1, 3, 4)[1:]},
	} {
		for _, l := range [][]api.Range{c.l, loosened(c.l)} {
			if length, e := spans.Length(l); length != c.length || e != api.OK {
				t.Errorf("P5.1: Length of %s: %s, %d", show(l), value(length).RatString(), e)
			}
			for _, d := range []api.Rat{c.d, loose(c.d)} {
				got, e := spans.Shift(l, d)
				expect(t, "P5.1: Shift of "+show(l), got, e, c.want)
			}
		}
	}
}
