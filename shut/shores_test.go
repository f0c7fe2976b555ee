package shut_test

import (
	"math"
	"math/rand"
	"slices"
	"testing"

	"laurel/api"
	"laurel/shut"
)

// seen is a shore with tests, which faults spoil.
func seen() shut.Shore { return wet(foul(1), clean(0)) }

// fault spoils that shore, so that it has an error.
type fault struct {
	name  string
	e     api.Errno
	spoil func(s *shut.Shore)
}

// groups returns faults by their errors, in the order in which Check returns these.
func groups() [][]fault {
	return [][]fault{manyFaults(), limitFaults(), missingFaults(), orderFaults(), againFaults()}
}

func manyFaults() []fault {
	return []fault{
		{"no beds", api.ErrMany, func(s *shut.Shore) { s.Beds = 0 }},
		{"-1 beds", api.ErrMany, func(s *shut.Shore) { s.Beds = -1 }},
		{"7 beds", api.ErrMany, func(s *shut.Shore) { s.Beds = 7 }},
		{"most beds", api.ErrMany, func(s *shut.Shore) { s.Beds = math.MaxInt }},
		{"least beds", api.ErrMany, func(s *shut.Shore) { s.Beds = math.MinInt }},
		{"no tides", api.ErrMany, func(s *shut.Shore) { s.Tides = 0 }},
		{"-1 tides", api.ErrMany, func(s *shut.Shore) { s.Tides = -1 }},
		{"13 tides", api.ErrMany, func(s *shut.Shore) { s.Tides = 13 }},
		{"most tides", api.ErrMany, func(s *shut.Shore) { s.Tides = math.MaxInt }},
		{"least tides", api.ErrMany, func(s *shut.Shore) { s.Tides = math.MinInt }},
		{"5 drains", api.ErrMany, func(s *shut.Shore) { s.Drains = slices.Repeat(s.Drains[:1], 5) }},
		{"5 rains", api.ErrMany, func(s *shut.Shore) { s.Rains = slices.Repeat(s.Rains[:1], 5) }},
		{"7 sacks", api.ErrMany, func(s *shut.Shore) { s.Sacks = slices.Repeat(s.Sacks[:1], 7) }},
		{"empty sacks", api.ErrMany, func(s *shut.Shore) { s.Sacks = make([]shut.Sack, 7) }},
		{"sack from nil beds", api.ErrMany, func(s *shut.Shore) { s.Sacks[0].Beds = nil }},
		{"last sack from no beds", api.ErrMany, func(s *shut.Shore) { s.Sacks[3].Beds = list() }},
	}
}

func limitFaults() []fault {
	return []fault{
		{"needs 0", api.ErrLimit, func(s *shut.Shore) { s.Drains[0].Needs = 0 }},
		{"needs 10", api.ErrLimit, func(s *shut.Shore) { s.Drains[2].Needs = 10 }},
		{"needs most", api.ErrLimit, func(s *shut.Shore) { s.Drains[1].Needs = math.MaxInt }},
		{"needs least", api.ErrLimit, func(s *shut.Shore) { s.Drains[1].Needs = math.MinInt }},
		{"shuts 0", api.ErrLimit, func(s *shut.Shore) { s.Drains[2].Shuts = 0 }},
		{"shuts 13", api.ErrLimit, func(s *shut.Shore) { s.Drains[0].Shuts = 13 }},
		{"shuts most", api.ErrLimit, func(s *shut.Shore) { s.Drains[1].Shuts = math.MaxInt }},
		{"shuts least", api.ErrLimit, func(s *shut.Shore) { s.Drains[1].Shuts = math.MinInt }},
		{"fall from -1", api.ErrLimit, func(s *shut.Shore) { s.Rains[0].Fall.Lo = -1 }},
		{"fall from 10", api.ErrLimit, func(s *shut.Shore) { s.Rains[1].Fall.Lo = 10 }},
		{"fall to 10", api.ErrLimit, func(s *shut.Shore) { s.Rains[1].Fall.Hi = 10 }},
		{"fall to -1", api.ErrLimit, func(s *shut.Shore) { s.Rains[0].Fall.Hi = -1 }},
		{"widest fall", api.ErrLimit, func(s *shut.Shore) { s.Rains[0].Fall = span(math.MinInt, math.MaxInt) }},
		{"fall back", api.ErrLimit, func(s *shut.Shore) { s.Rains[1].Fall = span(math.MaxInt, math.MinInt) }},
	}
}

func missingFaults() []fault {
	return []fault{
		{"drain at 3", api.ErrMissing, func(s *shut.Shore) { s.Drains[0].Beds = list(0, 3) }},
		{"drain at -1", api.ErrMissing, func(s *shut.Shore) { s.Drains[2].Beds = list(-1, 0) }},
		{"drain at 3, then back", api.ErrMissing, func(s *shut.Shore) { s.Drains[1].Beds = list(3, 0) }},
		{"far drain", api.ErrMissing, func(s *shut.Shore) { s.Drains[1].Beds = list(math.MinInt, math.MaxInt) }},
		{"drain at all and one more", api.ErrMissing, func(s *shut.Shore) { s.Drains[1].Beds = list(0, 1, 2, 3) }},
		{"sack from 3", api.ErrMissing, func(s *shut.Shore) { s.Sacks[3].Beds = list(3) }},
		{"sack from -1", api.ErrMissing, func(s *shut.Shore) { s.Sacks[0].Beds = list(-1, 2) }},
		{"sack from 3, then back", api.ErrMissing, func(s *shut.Shore) { s.Sacks[1].Beds = list(3, 3) }},
		{"far sack", api.ErrMissing, func(s *shut.Shore) { s.Sacks[1].Beds = list(0, math.MaxInt) }},
		{"two beds", api.ErrMissing, func(s *shut.Shore) { s.Beds = 2 }},
		{"rain at -1", api.ErrMissing, func(s *shut.Shore) { s.Rains[0].Tide = -1 }},
		{"rain at 5", api.ErrMissing, func(s *shut.Shore) { s.Rains[1].Tide = 5 }},
		{"most rain", api.ErrMissing, func(s *shut.Shore) { s.Rains[0].Tide = math.MaxInt }},
		{"least rain", api.ErrMissing, func(s *shut.Shore) { s.Rains[1].Tide = math.MinInt }},
		{"sack from tide -1", api.ErrMissing, func(s *shut.Shore) { s.Sacks[0].Tides.Lo = -1 }},
		{"sack from tide 5", api.ErrMissing, func(s *shut.Shore) { s.Sacks[2].Tides.Lo = 5 }},
		{"sack to tide 5", api.ErrMissing, func(s *shut.Shore) { s.Sacks[3].Tides.Hi = 5 }},
		{"sack to tide -1", api.ErrMissing, func(s *shut.Shore) { s.Sacks[1].Tides.Hi = -1 }},
		{"widest sack", api.ErrMissing, func(s *shut.Shore) { s.Sacks[1].Tides = span(math.MinInt, math.MaxInt) }},
		{"four tides", api.ErrMissing, func(s *shut.Shore) { s.Tides = 4 }},
		{"test of 4", api.ErrMissing, func(s *shut.Shore) { s.Tests[0].Sack = 4 }},
		{"test of -1", api.ErrMissing, func(s *shut.Shore) { s.Tests[1].Sack = -1 }},
		{"tests of 4", api.ErrMissing, func(s *shut.Shore) { s.Tests = []shut.Test{foul(4), foul(4)} }},
		{"most test", api.ErrMissing, func(s *shut.Shore) { s.Tests[1].Sack = math.MaxInt }},
		{"least test", api.ErrMissing, func(s *shut.Shore) { s.Tests[0].Sack = math.MinInt }},
	}
}

func orderFaults() []fault {
	return []fault{
		{"drain back", api.ErrOrder, func(s *shut.Shore) { s.Drains[0].Beds = list(1, 0) }},
		{"drain twice", api.ErrOrder, func(s *shut.Shore) { s.Drains[2].Beds = list(0, 0) }},
		{"last bed of a drain back", api.ErrOrder, func(s *shut.Shore) { s.Drains[1].Beds = list(0, 2, 1) }},
		{"many beds of a drain", api.ErrOrder, func(s *shut.Shore) { s.Drains[1].Beds = slices.Repeat(list(0, 1, 2), 1000) }},
		{"sack back", api.ErrOrder, func(s *shut.Shore) { s.Sacks[3].Beds = list(2, 0) }},
		{"sack twice", api.ErrOrder, func(s *shut.Shore) { s.Sacks[0].Beds = list(1, 1) }},
		{"last bed of a sack twice", api.ErrOrder, func(s *shut.Shore) { s.Sacks[1].Beds = list(0, 1, 1) }},
		{"many beds of a sack", api.ErrOrder, func(s *shut.Shore) { s.Sacks[1].Beds = make([]int, 1000) }},
		{"rain back", api.ErrOrder, func(s *shut.Shore) { s.Rains[0].Fall = span(7, 6) }},
		{"last rain back", api.ErrOrder, func(s *shut.Shore) { s.Rains[1].Fall = span(9, 0) }},
		{"tides back", api.ErrOrder, func(s *shut.Shore) { s.Sacks[0].Tides = span(3, 2) }},
		{"last tides back", api.ErrOrder, func(s *shut.Shore) { s.Sacks[3].Tides = span(4, 0) }},
	}
}

func againFaults() []fault {
	return []fault{
		{"same test again", api.ErrAgain, func(s *shut.Shore) { s.Tests = append(s.Tests, foul(1)) }},
		{"other test again", api.ErrAgain, func(s *shut.Shore) { s.Tests = append(s.Tests, foul(2), foul(0)) }},
		{"tests side by side", api.ErrAgain, func(s *shut.Shore) { s.Tests = []shut.Test{clean(3), foul(3)} }},
		{"many tests", api.ErrAgain, func(s *shut.Shore) { s.Tests = make([]shut.Test, 1000) }},
	}
}

// P7.1: each error of Check, one number beyond each limit.
func TestCheckFaults(t *testing.T) {
	for _, x := range slices.Concat(groups()...) {
		s := seen()
		x.spoil(&s)
		if e := shut.Check(s); e != x.e {
			t.Error(x.name, e, x.e)
		}
	}
}

// P7.1, R1: of two errors the one is returned that is named first, wherever they are.
func TestCheckOrder(t *testing.T) {
	all := groups()
	for i, group := range all {
		for _, x := range group {
			for _, later := range slices.Concat(all[i+1:]...) {
				s := seen()
				later.spoil(&s)
				x.spoil(&s)
				if e := shut.Check(s); e != x.e {
					t.Error(x.name, later.name, e)
				}
			}
		}
	}
}

// P7.1, R1: what is asked of drains, rains, sacks and tests is asked of all of them before the next error is asked for.
func TestCheckAll(t *testing.T) {
	for i, x := range []struct {
		change func(s *shut.Shore)
		e      api.Errno
	}{
		{func(s *shut.Shore) { s.Drains[0], s.Drains[2] = drain(1, 1, 1, 0), drain(1, 1, 3) }, api.ErrMissing},
		{func(s *shut.Shore) { s.Drains[0], s.Drains[2] = drain(1, 1, 3), drain(0, 1) }, api.ErrLimit},
		{func(s *shut.Shore) { s.Rains[0], s.Rains[1] = rain(0, 3, 2), rain(5, 2, 3) }, api.ErrMissing},
		{func(s *shut.Shore) { s.Rains[0], s.Rains[1] = rain(5, 2, 3), rain(0, 3, 10) }, api.ErrLimit},
		{func(s *shut.Shore) { s.Sacks[0], s.Sacks[3] = sack(3, 2, 0), sack(2, 3, 3) }, api.ErrMissing},
		{func(s *shut.Shore) { s.Sacks[0], s.Sacks[3] = sack(3, 5, 3), sack(2, 3) }, api.ErrMany},
		{func(s *shut.Shore) { s.Tests = []shut.Test{foul(1), foul(1), foul(4)} }, api.ErrMissing},
		{func(s *shut.Shore) { s.Sacks = nil }, api.ErrMissing},
		{func(s *shut.Shore) { s.Rains[1].Fall = span(3, 2); s.Tests = []shut.Test{foul(1), foul(1)} }, api.ErrOrder},
		{func(s *shut.Shore) { s.Drains[0].Needs = 10; s.Sacks[0].Beds = nil }, api.ErrMany},
	} {
		s := seen()
		x.change(&s)
		if e := shut.Check(s); e != x.e {
			t.Error(i, e, x.e)
		}
	}
}

// P7.1, R3: numbers at their limits are allowed, and so are lists without elements.
func TestCheckAllowed(t *testing.T) {
	for i, change := range []func(s *shut.Shore){
		func(s *shut.Shore) {},
		func(s *shut.Shore) { *s = widest() },
		func(s *shut.Shore) { *s = dry() },
		func(s *shut.Shore) { *s = none() },
		func(s *shut.Shore) { *s = shut.Shore{Beds: 1, Tides: 1} },
		func(s *shut.Shore) { *s = shut.Shore{Beds: 6, Tides: 12} },
		func(s *shut.Shore) { s.Beds = 6; s.Drains[0].Beds = list(0, 1, 2, 3, 4, 5) },
		func(s *shut.Shore) { s.Tides = 12; s.Rains[0].Tide = 11; s.Sacks[2].Tides = span(0, 11) },
		func(s *shut.Shore) { s.Drains[0] = drain(1, 1, 0); s.Drains[1] = drain(9, 12, 2) },
		func(s *shut.Shore) { s.Drains[1].Beds = nil; s.Drains[2].Beds = list() },
		func(s *shut.Shore) { s.Drains = append(s.Drains, s.Drains[0]) },
		func(s *shut.Shore) { s.Rains = slices.Repeat(s.Rains, 2) },
		func(s *shut.Shore) { s.Rains[0].Fall = span(0, 9); s.Rains[1].Fall = span(9, 9) },
		func(s *shut.Shore) { s.Rains[0].Fall = span(0, 0); s.Rains[1].Tide = 4 },
		func(s *shut.Shore) { s.Rains[0], s.Rains[1] = s.Rains[1], s.Rains[0] },
		func(s *shut.Shore) { s.Sacks = append(s.Sacks, s.Sacks[:2]...); s.Tests[0].Sack = 5 },
		func(s *shut.Shore) { s.Sacks[0].Tides = span(4, 4); s.Sacks[1].Tides = span(0, 0) },
		func(s *shut.Shore) { s.Tests = []shut.Test{foul(3), clean(2), clean(1), foul(0)} },
		func(s *shut.Shore) { s.Drains, s.Rains, s.Tests = nil, nil, nil },
		func(s *shut.Shore) { s.Drains, s.Rains, s.Tests = []shut.Drain{}, []shut.Rain{}, []shut.Test{} },
		func(s *shut.Shore) { s.Sacks, s.Tests = []shut.Sack{}, nil },
	} {
		s := seen()
		change(&s)
		if e := shut.Check(s); e != api.OK {
			t.Error(i, e)
		}
	}
}

// P7.1: all functions return the errors of Check first, whatever else they are asked.
func TestCheckFirst(t *testing.T) {
	for _, x := range slices.Concat(groups()...) {
		for _, n := range list(0, -1, 99) {
			for _, c := range calls(n) {
				s := tested(seen(), clean(2))
				x.spoil(&s)
				if isZero, e := c.ask(s); e != x.e || !isZero {
					t.Error(x.name, c.name, n, e, isZero)
				}
			}
		}
	}
}

// P7.1: rains and drains that can close a bed at a tide, also where no such rain can have such a fall.
func TestBars(t *testing.T) {
	for i, x := range []struct {
		s     shut.Shore
		bed   int
		tides [][]shut.Bar
	}{
		{three(), 0, [][]shut.Bar{nil, {bar(0, 0)}, {bar(0, 0)}, {bar(0, 0)}, nil, nil}}, // example 1
		{three(), 1, [][]shut.Bar{nil, {bar(0, 0)}, {bar(0, 0)}, {bar(0, 0)}, nil, nil}},
		{three(), 2, [][]shut.Bar{nil, {bar(0, 1)}, {bar(0, 1)}, nil, nil, nil}},
		{none(), 2, [][]shut.Bar{nil, {bar(0, 1)}, {bar(0, 1)}, nil, nil, nil}}, // whether truths fit or not
		{wet(), 0, [][]shut.Bar{
			{bar(0, 0), bar(0, 2)}, {bar(0, 0), bar(0, 2)}, {bar(0, 0), bar(0, 2), bar(1, 0), bar(1, 2)},
			{bar(0, 2), bar(1, 0), bar(1, 2)}, {bar(0, 2), bar(1, 0), bar(1, 2)},
		}},
		{wet(), 1, [][]shut.Bar{
			{bar(0, 0), bar(0, 1)}, {bar(0, 0)}, {bar(0, 0), bar(1, 0), bar(1, 1)}, {bar(1, 0)}, {bar(1, 0)},
		}},
		{wet(), 2, [][]shut.Bar{{bar(0, 1)}, nil, {bar(1, 1)}, nil, nil}},
		{rained(wet(), rain(4, 9, 9), rain(1, 0, 0)), 1, [][]shut.Bar{
			nil, {bar(1, 0), bar(1, 1)}, {bar(1, 0)}, {bar(1, 0)}, {bar(0, 0), bar(0, 1)},
		}},
		{rained(wet()), 1, make([][]shut.Bar, 5)},
		{drained(wet()), 1, make([][]shut.Bar, 5)},
		{drained(wet(), drain(1, 12), drain(1, 1, 2)), 2, [][]shut.Bar{{bar(0, 1)}, nil, {bar(1, 1)}, nil, nil}},
		{dry(), 1, make([][]shut.Bar, 3)},
	} {
		for tide, want := range x.tides {
			if got, e := shut.Bars(x.s, x.bed, tide); !slices.Equal(got, want) || e != api.OK {
				t.Error(i, tide, got, e)
			}
		}
	}
}

// P7.1, P7.3, R2: the errors of a bed, and then of a tide, come before that no truth fits.
func TestBedErrors(t *testing.T) {
	for _, s := range []shut.Shore{three(), none()} {
		clash := api.OK
		if len(s.Tests) > 0 {
			clash = api.ErrClash
		}
		for _, bed := range append(someOf(0, 2), 1) {
			tides, e := shut.Tides(s, bed)
			want := clash
			if !isIn(bed, 0, 2) {
				want = api.ErrMissing
			}
			if e != want || e != api.OK && !zero(tides) {
				t.Error(bed, tides, e)
			}
			for _, tide := range append(someOf(0, 5), 2) {
				bars, e := shut.Bars(s, bed, tide)
				state, f := shut.Bed(s, bed, tide)
				want, there := clash, isIn(bed, 0, 2) && isIn(tide, 0, 5)
				if !there {
					want = api.ErrMissing
				}
				if (e == api.OK) != there || !there && (e != api.ErrMissing || !zero(bars)) || f != want || f != api.OK && state != 0 {
					t.Error(bed, tide, bars, state, e, f)
				}
			}
		}
	}
}

// P7.1: a bed is closed at a tide just if a rain of Bars has the fall that its drain needs.
func TestBarsMany(t *testing.T) {
	var closed, open int
	forMany(t, 400, func(r *rand.Rand, s shut.Shore) {
		o := slow{s}
		for bed := range s.Beds {
			for tide := range s.Tides {
				got, e := shut.Bars(s, bed, tide)
				if e != api.OK || !slices.IsSortedFunc(got, func(a, b shut.Bar) int { return 9*(a.Rain-b.Rain) + a.Drain - b.Drain }) {
					t.Error(s, bed, tide, got, e)
				}
				for range 4 {
					some := o.truth(r)
					is := slices.ContainsFunc(got, func(b shut.Bar) bool { return some.Falls[b.Rain] >= s.Drains[b.Drain].Needs })
					if is != o.isClosed(some, at(bed, tide)) {
						t.Error(s, bed, tide, got, some)
					}
					if is {
						closed++
					} else {
						open++
					}
				}
				if want := o.bars(at(bed, tide)); !slices.Equal(got, want) {
					t.Error(s, bed, tide, got, want)
				}
			}
		}
	})
	if closed < 500 || open < 500 {
		t.Error("too few truths of a kind to show anything", closed, open)
	}
}
