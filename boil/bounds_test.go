package boil_test

import (
	"math/rand"
	"slices"
	"testing"

	"laurel/api"
	"laurel/boil"
)

// pointed is a house whose weighings bound months on both sides of the peak.
func pointed() boil.House {
	return house(6, 2, weighed(0, 10, 10, 3, 9), weighed(2, 10, 10, 4, 8), weighed(5, 10, 10, 5, 10), weighed(3, 10, 12, 3, 7))
}

// P8.4: what the ratio of a month can be.
func TestBounds(t *testing.T) {
	for i, x := range []struct {
		h      boil.House
		month  int
		lo, hi api.Ratio
	}{
		{two(), 4, ratio(1, 4), ratio(11, 40)}, // example 4
		{two(), 1, ratio(2, 25), ratio(9, 100)},
		{pointed(), 0, ratio(3, 10), ratio(4, 5)}, // not more than month 2
		{pointed(), 1, ratio(3, 10), ratio(4, 5)}, // without a weighing of its own
		{pointed(), 2, ratio(1, 2), ratio(4, 5)},  // not less than month 5
		{pointed(), 3, ratio(1, 2), ratio(7, 10)},
		{pointed(), 4, ratio(1, 2), ratio(7, 10)},
		{pointed(), 5, ratio(1, 2), ratio(7, 10)},
		{rising(), 1, ratio(1, 4), ratio(1, 2)},
		{rising(), 2, ratio(1, 4), ratio(5, 7)},
		{rising(), 3, ratio(5, 12), ratio(5, 7)},
		{rising(), 4, ratio(5, 7), ratio(5, 7)},
		{rising(), 5, ratio(2, 9), ratio(5, 7)},
		{rising(), 6, ratio(2, 9), ratio(5, 7)},
		{row(5, 5), 0, ratio(1, 2), ratio(1, 2)},
		{house(1, 0, weighed(0, 1, 1000, 1, 1000)), 0, ratio(1, 1000), ratio(1000, 1)},
		{months(0, 3, 2, 1), 1, ratio(1, 5), ratio(1, 5)},
		{months(2, 1, 1, 1), 1, ratio(1, 10), ratio(1, 10)},
	} {
		if lo, hi, e := boil.Bounds(x.h, x.month); lo != x.lo || hi != x.hi || e != api.OK {
			t.Error(i, lo, hi, e)
		}
	}
}

// P8.4, R1, R2: months that there are not come before that weighings clash, and this before that there is no bound.
func TestBoundsErrors(t *testing.T) {
	for i, x := range []struct {
		h     boil.House
		month int
		e     api.Errno
	}{
		{two(), 0, api.ErrNone}, // no least one
		{two(), 2, api.ErrNone}, // no greatest one
		{two(), 3, api.ErrNone},
		{rising(), 0, api.ErrNone},
		{rising(), 7, api.ErrNone},
		{house(3, 1), 0, api.ErrNone},
		{house(3, 1), 1, api.ErrNone},
		{house(3, 1), 2, api.ErrNone},
		{house(3, 1, weighed(2, 1, 1, 1, 1)), 0, api.ErrNone},
		{house(3, 1, weighed(2, 1, 1, 1, 1)), 1, api.ErrNone},
		{four(), 4, api.ErrClash},
		{four(), 3, api.ErrClash}, // which has no greatest one, either
		{widest(), 0, api.ErrClash},
		{with(house(4, 0, weighed(1, 1, 1, 1, 1)), row(5, 6).Weighings...), 3, api.ErrClash},
	} {
		if lo, hi, e := boil.Bounds(x.h, x.month); e != x.e || !zero(lo, hi) {
			t.Error(i, lo, hi, e)
		}
	}
	for _, n := range outside(0, 4) {
		for _, h := range []boil.House{four(), two(), house(5, 2)} {
			if lo, hi, e := boil.Bounds(h, n); e != api.ErrMissing || !zero(lo, hi) {
				t.Error(n, lo, hi, e)
			}
		}
	}
}

// P8.4: bounds of many houses.
func TestBoundsMany(t *testing.T) {
	kinds := map[api.Errno]int{}
	var apart int
	forMany(t, 1500, func(_ *rand.Rand, h boil.House) {
		o := slow{h}
		agreeing := o.agreeing()
		for month := range h.Months {
			a, b, want := o.bounds(agreeing, month)
			lo, hi, e := boil.Bounds(h, month)
			if lo != a || hi != b || e != want {
				t.Error(h, month, lo, hi, e, a, b, want)
			}
			kinds[e]++
			if lo != hi {
				apart++
			}
		}
	})
	if kinds[api.OK] < 500 || kinds[api.ErrClash] < 500 || kinds[api.ErrNone] < 500 || apart < 300 {
		t.Error("too few bounds of a kind to show anything", kinds, apart)
	}
}

// P8.6: how much meat can have come out of shells, and how much was kept back.
func TestMeat(t *testing.T) {
	third := house(2, 0, weighed(0, 3, 3, 1, 2))
	narrow := house(1, 0, weighed(0, 100, 100, 33, 34))
	for i, x := range []struct {
		h                     boil.House
		month, shells, handed int
		want                  api.Span
		kept                  int
	}{
		{two(), 4, 90, 20, span(23, 24), 3}, // example 5
		{two(), 4, 90, 22, span(23, 24), 1},
		{two(), 4, 90, 23, span(23, 24), 0},
		{two(), 4, 90, 24, span(23, 24), 0},
		{two(), 4, 90, 1000, span(23, 24), 0},
		{two(), 4, 80, 0, span(20, 22), 20}, // nothing to be rounded
		{two(), 4, 4, 0, span(1, 1), 1},
		{two(), 4, 8, 1, span(2, 2), 1},
		{two(), 4, 1000, 0, span(250, 275), 250},
		{two(), 4, 0, 0, span(0, 0), 0},
		{two(), 1, 0, 7, span(0, 0), 0},
		{two(), 1, 1000, 80, span(80, 90), 0},
		{two(), 1, 1000, 79, span(80, 90), 1},
		{third, 0, 10, 0, span(4, 6), 4},
		{third, 0, 9, 0, span(3, 6), 3},
		{third, 0, 11, 0, span(4, 7), 4},
		{third, 0, 2, 0, span(1, 1), 1},
		{narrow, 0, 3, 0, span(1, 1), 1},
		{narrow, 0, 100, 0, span(33, 34), 33},
		{pointed(), 1, 10, 1, span(3, 8), 2},
		{row(10), 0, 1000, 1000, span(1000, 1000), 0},
		{row(10), 0, 1, 0, span(1, 1), 1},
		{house(1, 0, weighed(0, 1, 1000, 1, 1000)), 0, 1000, 0, span(1, 1000000), 1},
		{house(1, 0, weighed(0, 1, 1, 1000, 1000)), 0, 1000, 1000, span(1000000, 1000000), 999000},
		{house(1, 0, weighed(0, 1, 1000, 1, 1000)), 0, 1, 0, span(1, 1000), 1},
	} {
		if got, e := boil.Meat(x.h, x.month, x.shells); got != x.want || e != api.OK {
			t.Error(i, got, e)
		}
		if n, e := boil.Kept(x.h, x.month, x.shells, x.handed); n != x.kept || e != api.OK {
			t.Error(i, n, e)
		}
	}
}

// P8.6, R1, R2: the errors of Meat, and of Kept, in their order.
func TestMeatErrors(t *testing.T) {
	for i, x := range []struct {
		h             boil.House
		month, shells int
		e             api.Errno
	}{
		{two(), 4, 1, api.ErrWrong}, // from 0.25 to 0.275
		{two(), 4, 5, api.ErrWrong},
		{two(), 1, 11, api.ErrWrong},
		{house(1, 0, weighed(0, 100, 100, 33, 34)), 0, 2, api.ErrWrong},
		{row(1), 0, 999, api.ErrWrong},
		{two(), 0, 5, api.ErrNone},
		{two(), 2, 5, api.ErrNone},
		{two(), 3, 0, api.ErrNone},
		{four(), 4, 5, api.ErrClash},
		{four(), 3, 0, api.ErrClash},
		{four(), 5, 5, api.ErrMissing},
		{two(), -1, 0, api.ErrMissing},
		{two(), 4, 1001, api.ErrLimit},
		{two(), 4, -1, api.ErrLimit},
		{two(), 5, -1, api.ErrLimit},
		{four(), 4, 1001, api.ErrLimit},
		{two(), 2, 1001, api.ErrLimit},
	} {
		got, e := boil.Meat(x.h, x.month, x.shells)
		n, f := boil.Kept(x.h, x.month, x.shells, 0)
		if e != x.e || f != x.e || !zero(got, n) {
			t.Error(i, got, n, e, f)
		}
	}
	for _, n := range outside(0, 1000) {
		for _, month := range list(4, 2, 5, n) {
			for _, h := range []boil.House{two(), four()} {
				got, e := boil.Meat(h, month, n)
				one, f := boil.Kept(h, month, n, 0)
				other, g := boil.Kept(h, month, 1, n)
				if e != api.ErrLimit || f != e || g != e || !zero(got, one, other) {
					t.Error(n, month, got, one, other, e, f, g)
				}
			}
		}
	}
}

// P8.6: meat of many houses.
func TestMeatMany(t *testing.T) {
	var right, none, kept int
	forMany(t, 1200, func(r *rand.Rand, h boil.House) {
		o := slow{h}
		agreeing := o.agreeing()
		for month := range h.Months {
			lo, hi, want := o.bounds(agreeing, month)
			for range 3 {
				shells, handed := r.Intn(12), r.Intn(8)
				var all []int
				if want == api.OK {
					all = meat(lo, hi, shells)
				}
				e := want
				if e == api.OK && len(all) == 0 {
					e = api.ErrWrong
				}
				var out api.Span
				if len(all) > 0 {
					out = span(slices.Min(all), slices.Max(all))
					right++
				}
				if e == api.ErrWrong {
					none++
				}
				if got, f := boil.Meat(h, month, shells); got != out || f != e {
					t.Error(h, month, shells, got, f, out, e)
				}
				n, f := boil.Kept(h, month, shells, handed)
				if n != max(0, out.Lo-handed) || f != e {
					t.Error(h, month, shells, handed, n, f, out, e)
				}
				if n > 0 {
					kept++
				}
			}
		}
	})
	if right < 500 || none < 100 || kept < 200 {
		t.Error("too few houses of a kind to show anything", right, none, kept)
	}
}
