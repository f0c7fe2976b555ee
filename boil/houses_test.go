package boil_test

import (
	"math"
	"math/rand"
	"slices"
	"testing"

	"laurel/api"
	"laurel/boil"
)

// fault spoils the house of the examples, so that it has an error.
type fault struct {
	name  string
	e     api.Errno
	spoil func(h *boil.House)
}

// groups returns faults by their errors, in the order in which Check returns these.
func groups() [][]fault {
	return [][]fault{manyFaults(), missingFaults(), limitFaults(), orderFaults()}
}

func manyFaults() []fault {
	return []fault{
		{"no months", api.ErrMany, func(h *boil.House) { h.Months = 0 }},
		{"-1 months", api.ErrMany, func(h *boil.House) { h.Months = -1 }},
		{"13 months", api.ErrMany, func(h *boil.House) { h.Months = 13 }},
		{"most months", api.ErrMany, func(h *boil.House) { h.Months = math.MaxInt }},
		{"least months", api.ErrMany, func(h *boil.House) { h.Months = math.MinInt }},
		{"15 weighings", api.ErrMany, func(h *boil.House) { h.Weighings = slices.Repeat(h.Weighings[:1], 15) }},
		{"1000 weighings", api.ErrMany, func(h *boil.House) { h.Weighings = make([]boil.Weighing, 1000) }},
	}
}

func missingFaults() []fault {
	return []fault{
		{"peak -1", api.ErrMissing, func(h *boil.House) { h.Peak = -1 }},
		{"peak 5", api.ErrMissing, func(h *boil.House) { h.Peak = 5 }},
		{"most peak", api.ErrMissing, func(h *boil.House) { h.Peak = math.MaxInt }},
		{"least peak", api.ErrMissing, func(h *boil.House) { h.Peak = math.MinInt }},
		{"month -1", api.ErrMissing, func(h *boil.House) { h.Weighings[0].Month = -1 }},
		{"month 5", api.ErrMissing, func(h *boil.House) { h.Weighings[1].Month = 5 }},
		{"last month 5", api.ErrMissing, func(h *boil.House) { h.Weighings[3].Month = 5 }},
		{"most month", api.ErrMissing, func(h *boil.House) { h.Weighings[2].Month = math.MaxInt }},
		{"least month", api.ErrMissing, func(h *boil.House) { h.Weighings[2].Month = math.MinInt }},
		{"4 months", api.ErrMissing, func(h *boil.House) { h.Months = 4 }},
		{"2 months", api.ErrMissing, func(h *boil.House) { h.Months = 2; h.Weighings = h.Weighings[:2] }},
	}
}

func limitFaults() []fault {
	return []fault{
		{"shells from 0", api.ErrLimit, func(h *boil.House) { h.Weighings[0].Shells.Lo = 0 }},
		{"shells from 1001", api.ErrLimit, func(h *boil.House) { h.Weighings[3].Shells.Lo = 1001 }},
		{"shells to 0", api.ErrLimit, func(h *boil.House) { h.Weighings[3].Shells.Hi = 0 }},
		{"shells to 1001", api.ErrLimit, func(h *boil.House) { h.Weighings[1].Shells.Hi = 1001 }},
		{"widest shells", api.ErrLimit, func(h *boil.House) { h.Weighings[2].Shells = span(math.MinInt, math.MaxInt) }},
		{"shells far back", api.ErrLimit, func(h *boil.House) { h.Weighings[2].Shells = span(math.MaxInt, math.MinInt) }},
		{"meat from 0", api.ErrLimit, func(h *boil.House) { h.Weighings[3].Meat.Lo = 0 }},
		{"meat from 1001", api.ErrLimit, func(h *boil.House) { h.Weighings[1].Meat.Lo = 1001 }},
		{"meat to 0", api.ErrLimit, func(h *boil.House) { h.Weighings[0].Meat.Hi = 0 }},
		{"meat to 1001", api.ErrLimit, func(h *boil.House) { h.Weighings[3].Meat.Hi = 1001 }},
		{"widest meat", api.ErrLimit, func(h *boil.House) { h.Weighings[2].Meat = span(math.MinInt, math.MaxInt) }},
		{"meat far back", api.ErrLimit, func(h *boil.House) { h.Weighings[2].Meat = span(math.MaxInt, math.MinInt) }},
		{"empty weighing", api.ErrLimit, func(h *boil.House) { h.Weighings[1] = boil.Weighing{} }},
	}
}

func orderFaults() []fault {
	return []fault{
		{"shells back", api.ErrOrder, func(h *boil.House) { h.Weighings[0].Shells = span(101, 100) }},
		{"last shells back", api.ErrOrder, func(h *boil.House) { h.Weighings[3].Shells = span(1000, 1) }},
		{"meat back", api.ErrOrder, func(h *boil.House) { h.Weighings[0].Meat = span(12, 11) }},
		{"last meat back", api.ErrOrder, func(h *boil.House) { h.Weighings[3].Meat = span(1000, 1) }},
	}
}

// P8.1: each error of Check, one number beyond each limit.
func TestCheckFaults(t *testing.T) {
	for _, x := range slices.Concat(groups()...) {
		h := four()
		x.spoil(&h)
		if e := boil.Check(h); e != x.e {
			t.Error(x.name, e, x.e)
		}
	}
}

// P8.1, R1: of two errors the one is returned that is named first, wherever they are.
func TestCheckOrder(t *testing.T) {
	all := groups()
	for i, group := range all {
		for _, x := range group {
			for _, later := range slices.Concat(all[i+1:]...) {
				h := four()
				later.spoil(&h)
				x.spoil(&h)
				if e := boil.Check(h); e != x.e {
					t.Error(x.name, later.name, e)
				}
			}
		}
	}
}

// P8.1, R1: what is asked of a weighing is asked of all of them before the next error is asked for.
func TestCheckAll(t *testing.T) {
	for i, x := range []struct {
		first, last boil.Weighing
		e           api.Errno
	}{
		{weighed(0, 2, 1, 1, 1), weighed(0, 1, 1, 1, 0), api.ErrLimit},
		{weighed(0, 1, 1, 2, 1), weighed(0, 0, 1, 1, 1), api.ErrLimit},
		{weighed(0, 1, 1, 0, 1), weighed(5, 1, 1, 1, 1), api.ErrMissing},
		{weighed(0, 2, 1, 2, 1), weighed(5, 1, 1, 1, 1), api.ErrMissing},
		{weighed(5, 1, 1, 1, 1), weighed(0, 0, 1, 1, 1), api.ErrMissing},
		{weighed(0, 2, 1, 1, 1001), weighed(0, 1, 1, 1, 1), api.ErrLimit},
		{weighed(0, 1, 1, 1, 1), weighed(0, 1, 1, 2, 1), api.ErrOrder},
	} {
		h := four()
		h.Weighings[0], h.Weighings[3] = x.first, x.last
		if e := boil.Check(h); e != x.e {
			t.Error(i, e, x.e)
		}
		h.Peak = 5
		if e := boil.Check(h); e != api.ErrMissing {
			t.Error(i, e)
		}
	}
}

// P8.1, R3: numbers at their limits are allowed, and so is a house without weighings.
func TestCheckAllowed(t *testing.T) {
	for i, h := range []boil.House{
		four(), two(), widest(), rising(), house(1, 0), house(12, 0), house(12, 11),
		{Months: 3, Peak: 1, Weighings: []boil.Weighing{}},
		house(2, 0, slices.Repeat(four().Weighings[:1], 14)...),
		house(12, 3, weighed(11, 1, 1, 1, 1), weighed(0, 1000, 1000, 1000, 1000)),
		house(1, 0, weighed(0, 1, 1000, 1, 1000), weighed(0, 1, 1, 1000, 1000), weighed(0, 1000, 1000, 1, 1)),
	} {
		if e := boil.Check(h); e != api.OK {
			t.Error(i, e)
		}
	}
}

// P8.1: all functions return the errors of Check first, whatever else they are asked.
func TestCheckFirst(t *testing.T) {
	for _, x := range slices.Concat(groups()...) {
		for _, n := range list(0, 1, -1, 99) {
			for _, c := range calls(n) {
				h := four()
				x.spoil(&h)
				if isZero, e := c.ask(h); e != x.e || !isZero {
					t.Error(x.name, c.name, n, e, isZero)
				}
			}
		}
	}
}

// P8.1: the least and the greatest ratio of weighings, in lowest terms.
func TestLeast(t *testing.T) {
	for i, x := range []struct {
		x      boil.Weighing
		lo, hi api.Ratio
	}{
		{four().Weighings[0], ratio(1, 10), ratio(3, 25)}, // example 1
		{four().Weighings[1], ratio(2, 25), ratio(9, 100)},
		{four().Weighings[2], ratio(1, 5), ratio(6, 25)}, // example 2
		{four().Weighings[3], ratio(1, 4), ratio(11, 40)},
		{weighed(3, 4, 6, 2, 8), ratio(1, 3), ratio(2, 1)},
		{weighed(3, 7, 7, 7, 7), ratio(1, 1), ratio(1, 1)},
		{weighed(3, 7, 9, 5, 8), ratio(5, 9), ratio(8, 7)},
		{weighed(4, 1, 1000, 1, 1000), ratio(1, 1000), ratio(1000, 1)},
		{weighed(0, 1, 1, 1000, 1000), ratio(1000, 1), ratio(1000, 1)},
		{weighed(1, 1000, 1000, 1, 1), ratio(1, 1000), ratio(1, 1000)},
		{weighed(2, 996, 999, 998, 1000), ratio(998, 999), ratio(250, 249)},
	} {
		h := house(5, 2, four().Weighings[3], x.x)
		lo, e := boil.Least(h, 1)
		hi, f := boil.Greatest(h, 1)
		if lo != x.lo || hi != x.hi || e != api.OK || f != api.OK {
			t.Error(i, lo, hi, e, f)
		}
	}
}

// P8.1, R2: weighings that there are not.
func TestLeastErrors(t *testing.T) {
	for _, n := range append(someOf(0, 3), 1, 2) {
		for _, h := range []boil.House{four(), house(1, 0)} {
			want := api.OK
			if !isIn(n, 0, len(h.Weighings)-1) {
				want = api.ErrMissing
			}
			lo, e := boil.Least(h, n)
			hi, f := boil.Greatest(h, n)
			if e != want || f != want || want != api.OK && !zero(lo, hi) {
				t.Error(n, lo, hi, e, f)
			}
		}
	}
}

// P8.1: the ratios that many weighings are true with: between the two ends, and nowhere else.
func TestLeastMany(t *testing.T) {
	forMany(t, 400, func(_ *rand.Rand, h boil.House) {
		for n, x := range h.Weighings {
			lo, e := boil.Least(h, n)
			hi, f := boil.Greatest(h, n)
			if lo != reduced(lo) || hi != reduced(hi) || e != api.OK || f != api.OK {
				t.Error(h, n, lo, hi, e, f)
			}
			below, above := ratio(1000*lo.Num-1, 1000*lo.Den), ratio(1000*hi.Num+1, 1000*hi.Den)
			if !isTrue(x, lo) || !isTrue(x, hi) || isTrue(x, below) || isTrue(x, above) {
				t.Error(h, n, lo, hi)
			}
		}
	})
}

// P8.3: which months lie under which.
func TestUnder(t *testing.T) {
	for _, many := range list(1, 2, 5, 12) {
		for peak := range many {
			h := house(many, peak)
			for a := range many {
				for b := range many {
					if is, e := boil.Under(h, a, b); is != (slow{h}).isUnder(a, b) || e != api.OK {
						t.Error(many, peak, a, b, is, e)
					}
				}
			}
		}
	}
	for i, x := range []struct {
		a, b int
		is   bool
	}{{0, 2, true}, {0, 1, true}, {1, 0, false}, {2, 0, false}, {4, 2, true}, {4, 3, true}, {3, 4, false}, {1, 3, false}, {3, 1, false}, {0, 4, false}, {4, 0, false}, {2, 2, true}, {1, 1, true}, {4, 4, true}} {
		if is, e := boil.Under(four(), x.a, x.b); is != x.is || e != api.OK {
			t.Error(i, is, e)
		}
	}
}

// P8.3, R2: months that there are not.
func TestUnderErrors(t *testing.T) {
	for _, n := range outside(0, 4) {
		for _, p := range [][2]int{{n, 0}, {0, n}, {n, n}, {4, n}, {n, 2}} {
			if is, e := boil.Under(four(), p[0], p[1]); is || e != api.ErrMissing {
				t.Error(p, is, e)
			}
		}
	}
}

// P8.7: houses without some weighings.
func TestWithout(t *testing.T) {
	all := four().Weighings
	for i, x := range []struct {
		gone []int
		want []boil.Weighing
	}{
		{nil, all},
		{list(), all},
		{list(0), all[1:]},
		{list(3), all[:3]},
		{list(0, 2), two().Weighings}, // example 4
		{list(2, 0), two().Weighings},
		{list(1, 2), []boil.Weighing{all[0], all[3]}},
		{list(3, 0, 1), all[2:3]},
		{list(3, 1, 0, 2), nil},
	} {
		if got, e := boil.Without(four(), x.gone); !isSame(got, house(5, 2, x.want...)) || e != api.OK {
			t.Error(i, got, e)
		}
	}
	if got, e := boil.Without(house(12, 7), nil); !isSame(got, house(12, 7)) || e != api.OK {
		t.Error(got, e)
	}
}

// P8.7, R1, R2: the first weighing of the list that has an error decides.
func TestWithoutErrors(t *testing.T) {
	for _, n := range outside(0, 3) {
		for i, x := range []struct {
			gone []int
			e    api.Errno
		}{
			{list(n), api.ErrMissing},
			{list(n, n), api.ErrMissing},
			{list(0, 1, 2, 3, n), api.ErrMissing},
			{list(0, n, 0), api.ErrMissing},
			{list(0, 0, n), api.ErrAgain},
			{list(2, 0, 2, n), api.ErrAgain},
			{list(3, 2, 1, 0, 1), api.ErrAgain},
			{make([]int, 1000), api.ErrAgain},
		} {
			if got, e := boil.Without(four(), x.gone); e != x.e || !zero(got) {
				t.Error(n, i, got, e)
			}
		}
	}
	if got, e := boil.Without(house(1, 0), list(0)); e != api.ErrMissing || !zero(got) {
		t.Error(got, e)
	}
}
