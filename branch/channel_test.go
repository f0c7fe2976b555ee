package branch_test

import (
	"math"
	"math/rand"
	"slices"
	"testing"

	"laurel/api"
	"laurel/branch"
)

// seen is the channel of the examples with two tides and two sights, which faults spoil.
func seen() branch.Channel { return one(2, gone(1, 1), up(2, 4)) }

// fault spoils that channel, so that it has an error.
type fault struct {
	name  string
	e     api.Errno
	spoil func(c *branch.Channel)
}

func faults() []fault {
	return slices.Concat(manyFaults(), limitFaults(), missingFaults(), orderFaults())
}

func manyFaults() []fault {
	return []fault{
		{"1 cell", api.ErrMany, func(c *branch.Channel) { c.Cells = 1 }},
		{"no cells", api.ErrMany, func(c *branch.Channel) { c.Cells = 0 }},
		{"less than no cells", api.ErrMany, func(c *branch.Channel) { c.Cells = -6 }},
		{"11 cells", api.ErrMany, func(c *branch.Channel) { c.Cells = 11 }},
		{"most cells", api.ErrMany, func(c *branch.Channel) { c.Cells = math.MaxInt }},
		{"least cells", api.ErrMany, func(c *branch.Channel) { c.Cells = math.MinInt }},
		{"-1 tides", api.ErrMany, func(c *branch.Channel) { c.Tides = -1 }},
		{"5 tides", api.ErrMany, func(c *branch.Channel) { c.Tides = 5 }},
		{"most tides", api.ErrMany, func(c *branch.Channel) { c.Tides = math.MaxInt }},
		{"least tides", api.ErrMany, func(c *branch.Channel) { c.Tides = math.MinInt }},
		{"nil fords", api.ErrMany, func(c *branch.Channel) { c.Fords = nil }},
		{"no fords", api.ErrMany, func(c *branch.Channel) { c.Fords = list() }},
		{"4 fords", api.ErrMany, func(c *branch.Channel) { c.Fords = list(0, 1, 2, 3) }},
		{"5 quicksands", api.ErrMany, func(c *branch.Channel) { c.Sands = slices.Repeat(sands(sand(1, 1, 1)), 5) }},
		{"9 sights", api.ErrMany, func(c *branch.Channel) { c.Sights = slices.Repeat([]branch.Sight{up(0, 1)}, 9) }},
	}
}

func limitFaults() []fault {
	return []fault{
		{"reach 0", api.ErrLimit, func(c *branch.Channel) { c.Sands[0].Reach = 0 }},
		{"reach -1", api.ErrLimit, func(c *branch.Channel) { c.Sands[0].Reach = -1 }},
		{"reach 3", api.ErrLimit, func(c *branch.Channel) { c.Sands = append(c.Sands, sand(0, 1, 3)) }},
		{"most reach", api.ErrLimit, func(c *branch.Channel) { c.Sands[0].Reach = math.MaxInt }},
		{"least reach", api.ErrLimit, func(c *branch.Channel) { c.Sands[0].Reach = math.MinInt }},
		{"after -1", api.ErrLimit, func(c *branch.Channel) { c.Sights[0].After = -1 }},
		{"after 3", api.ErrLimit, func(c *branch.Channel) { c.Sights[1].After = 3 }},
		{"after a tide that is not over", api.ErrLimit, func(c *branch.Channel) { c.Tides = 0 }},
		{"most after", api.ErrLimit, func(c *branch.Channel) { c.Sights[0].After = math.MaxInt }},
		{"least after", api.ErrLimit, func(c *branch.Channel) { c.Sights[1].After = math.MinInt }},
	}
}

func missingFaults() []fault {
	return []fault{
		{"ford -1", api.ErrMissing, func(c *branch.Channel) { c.Fords = list(-1, 4) }},
		{"ford 6", api.ErrMissing, func(c *branch.Channel) { c.Fords = list(1, 4, 6) }},
		{"ford 6 before 4", api.ErrMissing, func(c *branch.Channel) { c.Fords = list(6, 4) }},
		{"far ford", api.ErrMissing, func(c *branch.Channel) { c.Fords = list(math.MinInt, math.MaxInt) }},
		{"span from -1", api.ErrMissing, func(c *branch.Channel) { c.Sands[0].Span = span(-1, 2) }},
		{"span to -1", api.ErrMissing, func(c *branch.Channel) { c.Sands[0].Span = span(2, -1) }},
		{"span to 6", api.ErrMissing, func(c *branch.Channel) { c.Sands = append(c.Sands, sand(5, 6, 1)) }},
		{"span from 6", api.ErrMissing, func(c *branch.Channel) { c.Sands[0].Span = span(6, 5) }},
		{"far span", api.ErrMissing, func(c *branch.Channel) { c.Sands[0].Span = span(math.MinInt, math.MaxInt) }},
		{"sight of -1", api.ErrMissing, func(c *branch.Channel) { c.Sights[0].Cell = -1 }},
		{"sight of 6", api.ErrMissing, func(c *branch.Channel) { c.Sights[1].Cell = 6 }},
		{"far sight", api.ErrMissing, func(c *branch.Channel) { c.Sights[1].Cell = math.MaxInt }},
	}
}

func orderFaults() []fault {
	return []fault{
		{"fords back", api.ErrOrder, func(c *branch.Channel) { c.Fords = list(4, 1) }},
		{"a ford twice", api.ErrOrder, func(c *branch.Channel) { c.Fords = list(4, 4) }},
		{"third ford before", api.ErrOrder, func(c *branch.Channel) { c.Fords = list(1, 4, 3) }},
		{"third ford twice", api.ErrOrder, func(c *branch.Channel) { c.Fords = list(1, 4, 4) }},
		{"span back", api.ErrOrder, func(c *branch.Channel) { c.Sands[0].Span = span(2, 1) }},
		{"second span back", api.ErrOrder, func(c *branch.Channel) { c.Sands = append(c.Sands, sand(5, 0, 1)) }},
	}
}

// P3.1: each error of Check, one number beyond each limit.
func TestCheckFaults(t *testing.T) {
	for _, f := range faults() {
		c := seen()
		f.spoil(&c)
		if e := branch.Check(c); e != f.e {
			t.Error(f.name, e, f.e)
		}
	}
}

// P3.1, R1: of two errors the one is returned that is named first, wherever they are.
func TestCheckOrder(t *testing.T) {
	groups := [][]fault{manyFaults(), limitFaults(), missingFaults(), orderFaults()}
	for i, group := range groups {
		for _, first := range group {
			for _, later := range slices.Concat(groups[i+1:]...) {
				c := seen()
				later.spoil(&c)
				first.spoil(&c)
				if e := branch.Check(c); e != first.e {
					t.Error(first.name, later.name, e)
				}
			}
		}
	}
}

// P3.1, R3: numbers at their limits are allowed, and so are lists without elements.
func TestCheckAllowed(t *testing.T) {
	for i, change := range []func(c *branch.Channel){
		func(c *branch.Channel) {},
		func(c *branch.Channel) { *c = widest() },
		func(c *branch.Channel) { *c = near() },
		func(c *branch.Channel) { *c = branch.Channel{Cells: 2, Fords: list(0)} },
		func(c *branch.Channel) { *c = branch.Channel{Cells: 2, Fords: list(0, 1)} },
		func(c *branch.Channel) { c.Cells = 10; c.Fords = list(0, 9) },
		func(c *branch.Channel) { c.Tides = 4; c.Sights[0].After = 4 },
		func(c *branch.Channel) { c.Tides = 0; c.Sights = []branch.Sight{up(0, 0), gone(0, 5)} },
		func(c *branch.Channel) { c.Fords = list(0) },
		func(c *branch.Channel) { c.Fords = list(3, 4, 5) },
		func(c *branch.Channel) { c.Sands = nil },
		func(c *branch.Channel) { c.Sands = sands() },
		func(c *branch.Channel) { c.Sands = slices.Repeat(c.Sands, 4) },
		func(c *branch.Channel) { c.Sands = sands(sand(3, 3, 2), sand(0, 5, 1), sand(5, 5, 1)) },
		func(c *branch.Channel) { c.Sights = nil },
		func(c *branch.Channel) { c.Sights = []branch.Sight{} },
		func(c *branch.Channel) { c.Sights = slices.Repeat(c.Sights, 4) },
	} {
		c := seen()
		change(&c)
		if e := branch.Check(c); e != api.OK {
			t.Error(i, e)
		}
	}
}

// P3.1: the reach of cells in which several quicksands are, or none.
func TestReach(t *testing.T) {
	c := one(1)
	c.Sands = sands(sand(2, 3, 2), sand(0, 2, 1), sand(3, 4, 1))
	for cell, want := range list(1, 1, 2, 2, 1, 0) {
		if n, e := branch.Reach(c, cell); n != want || e != api.OK {
			t.Error(cell, n, e)
		}
	}
	for _, cell := range list(-1, 6, 9, math.MaxInt, math.MinInt) {
		if n, e := branch.Reach(c, cell); n != 0 || e != api.ErrMissing {
			t.Error(cell, n, e)
		}
	}
	if n, e := branch.Reach(branch.Channel{Cells: 10, Fords: list(0)}, 9); n != 0 || e != api.OK {
		t.Error(n, e)
	}
	forMany(t, 200, func(_ *rand.Rand, c branch.Channel) {
		for cell := range c.Cells {
			if n, e := branch.Reach(c, cell); n != (slow{c}).reach(cell) || e != api.OK {
				t.Error(c, cell, n, e)
			}
		}
	})
}

// P3.1: a channel with one sight more, the last one, and the errors of this sight.
func TestWith(t *testing.T) {
	for i, s := range []branch.Sight{up(0, 0), gone(2, 5), up(1, 1), gone(1, 1), up(2, 4)} {
		got, e := branch.With(seen(), s)
		want := with(seen(), s)
		if e != api.OK || got.Cells != want.Cells || got.Tides != want.Tides || !slices.Equal(got.Fords, want.Fords) ||
			!slices.Equal(got.Sands, want.Sands) || !slices.Equal(got.Sights, want.Sights) {
			t.Error(i, got, e)
		}
	}
	full := seen()
	full.Sights = slices.Repeat(full.Sights, 4)
	for i, x := range []struct {
		c branch.Channel
		s branch.Sight
		e api.Errno
	}{
		{full, up(1, 1), api.ErrMany},
		{full, up(3, 6), api.ErrMany},
		{seen(), up(3, 6), api.ErrLimit},
		{seen(), up(3, 1), api.ErrLimit},
		{seen(), up(-1, -1), api.ErrLimit},
		{seen(), up(math.MaxInt, 1), api.ErrLimit},
		{seen(), up(math.MinInt, 1), api.ErrLimit},
		{seen(), up(2, 6), api.ErrMissing},
		{seen(), up(0, -1), api.ErrMissing},
		{seen(), gone(0, math.MaxInt), api.ErrMissing},
		{seen(), gone(0, math.MinInt), api.ErrMissing},
	} {
		if got, e := branch.With(x.c, x.s); e != x.e || !zero(got) {
			t.Error(i, got, e)
		}
	}
	full.Sights = full.Sights[:7]
	if got, e := branch.With(full, up(0, 0)); len(got.Sights) != 8 || e != api.OK {
		t.Error(got, e)
	}
}

// call is a function, asked with some arguments of its own.
type call struct {
	name string
	ask  func(c branch.Channel) (isZero bool, e api.Errno)
}

// calls returns all functions but Check; their own arguments are a number n for all that they ask, and lists of it.
func calls(n int) []call {
	return []call{
		{"Reach", func(c branch.Channel) (bool, api.Errno) { a, e := branch.Reach(c, n); return zero(a), e }},
		{"Fits", func(c branch.Channel) (bool, api.Errno) { a, e := branch.Fits(c, [][]int{{n}}); return zero(a), e }},
		{"Count", func(c branch.Channel) (bool, api.Errno) { a, e := branch.Count(c); return zero(a), e }},
		{"Course", func(c branch.Channel) (bool, api.Errno) { a, e := branch.Course(c); return zero(a), e }},
		{"Calm", func(c branch.Channel) (bool, api.Errno) { a, b, e := branch.Calm(c); return zero(a, b), e }},
		{"Cells", func(c branch.Channel) (bool, api.Errno) { a, e := branch.Cells(c, n, n); return zero(a), e }},
		{"Sure", func(c branch.Channel) (bool, api.Errno) { a, e := branch.Sure(c, n); return zero(a), e }},
		{"Bare", func(c branch.Channel) (bool, api.Errno) { a, e := branch.Bare(c, n); return zero(a), e }},
		{"Fates", func(c branch.Channel) (bool, api.Errno) { a, e := branch.Fates(c); return zero(a), e }},
		{"Shift", func(c branch.Channel) (bool, api.Errno) { a, e := branch.Shift(c, n); return zero(a), e }},
		{"Anew", func(c branch.Channel) (bool, api.Errno) { a, e := branch.Anew(c); return zero(a), e }},
		{"With", func(c branch.Channel) (bool, api.Errno) { a, e := branch.With(c, up(n, n)); return zero(a), e }},
		{"Agree", func(c branch.Channel) (bool, api.Errno) { a, e := branch.Agree(c, list(n, n)); return zero(a), e }},
		{"Clash", func(c branch.Channel) (bool, api.Errno) { a, e := branch.Clash(c); return zero(a), e }},
		{"Wrong", func(c branch.Channel) (bool, api.Errno) { a, e := branch.Wrong(c); return zero(a), e }},
		{"Ask", func(c branch.Channel) (bool, api.Errno) { a, b, e := branch.Ask(c); return zero(a, b), e }},
	}
}

// P3.1, R1, R2: all functions return the errors of Check first, and zero beside them.
func TestCheckFirst(t *testing.T) {
	for _, f := range faults() {
		c := seen()
		f.spoil(&c)
		for _, n := range list(0, 1, -1, 99, math.MaxInt, math.MinInt) {
			for _, x := range calls(n) {
				if isZero, e := x.ask(c); e != f.e || !isZero {
					t.Error(f.name, x.name, n, isZero, e)
				}
			}
		}
	}
}
