package branch_test

import (
	"math"
	"math/rand"
	"slices"
	"testing"

	"laurel/api"
	"laurel/branch"
)

// P3.3: the cells in which a ford can be, those in which some ford is for certain, and those in which none can be.
func TestCells(t *testing.T) {
	for i, x := range []struct {
		c                 branch.Channel
		after, ford       int
		cells, sure, bare []int
	}{
		{one(1), 1, 0, list(0, 1, 2), list(4), list(3, 5)}, // example 1
		{one(1), 1, 1, list(4), list(4), list(3, 5)},
		{one(1), 0, 0, list(1), list(1, 4), list(0, 2, 3, 5)},
		{one(0), 0, 1, list(4), list(1, 4), list(0, 2, 3, 5)},
		{two(), 1, 0, list(0, 2), list(4), list(1, 3, 5)}, // example 2
		{two(), 0, 0, list(1), list(1, 4), list(0, 2, 3, 5)},
		{with(two(), up(1, 2)), 1, 0, list(2), list(2, 4), list(0, 1, 3, 5)}, // example 3
		{one(2), 2, 0, list(0, 1, 2, 3), list(4), list(5)},                   // example 5
		{one(2), 1, 0, list(0, 1, 2), list(4), list(3, 5)},
		{one(3), 3, 0, list(0, 1, 2, 3), list(4), list(5)}, // from cell 3 no farther
		{one(4), 4, 0, list(0, 1, 2, 3), list(4), list(5)},
		{one(2, up(2, 3)), 1, 0, list(2), list(2, 4), list(0, 1, 3, 5)}, // what is seen later tells what was before
		{one(2, gone(2, 1)), 1, 0, list(0, 1, 2), list(4), list(3, 5)},
		{one(2, up(1, 0)), 2, 0, list(0, 1), list(4), list(2, 3, 5)},
		{near(), 1, 0, list(0, 1, 2), nil, nil},
		{near(), 1, 1, list(1, 2, 3), nil, nil},
		{near(), 1, 2, list(2, 3, 4), nil, nil},
		{with(near(), gone(1, 0)), 1, 1, list(2, 3), nil, list(0)},
		{with(with(near(), gone(1, 0)), gone(1, 2)), 1, 1, list(3), list(1, 3, 4), list(0, 2)},
		{with(with(near(), up(1, 1)), up(1, 2)), 1, 0, list(0, 1), list(1, 2), nil},
	} {
		cells, e := branch.Cells(x.c, x.after, x.ford)
		sure, f := branch.Sure(x.c, x.after)
		bare, g := branch.Bare(x.c, x.after)
		if !slices.Equal(cells, x.cells) || !slices.Equal(sure, x.sure) || !slices.Equal(bare, x.bare) || e != api.OK || f != api.OK || g != api.OK {
			t.Error(i, cells, sure, bare, e, f, g)
		}
	}
}

// P3.3: the error of an After comes first, then that of a ford; then that no course fits.
func TestCellsErrors(t *testing.T) {
	none := one(1, gone(1, 4))
	for i, x := range []struct {
		c           branch.Channel
		after, ford int
		e, f        api.Errno
	}{
		{none, 1, 0, api.ErrClash, api.ErrClash},
		{none, 0, 1, api.ErrClash, api.ErrClash}, // nor before the sight
		{none, 1, 2, api.ErrMissing, api.ErrClash},
		{none, 1, -1, api.ErrMissing, api.ErrClash},
		{none, 2, 2, api.ErrLimit, api.ErrLimit},
		{none, -1, 0, api.ErrLimit, api.ErrLimit},
		{one(1), 2, 0, api.ErrLimit, api.ErrLimit},
		{one(1), -1, -1, api.ErrLimit, api.ErrLimit},
		{one(0), 1, 0, api.ErrLimit, api.ErrLimit},
		{one(4), 5, 0, api.ErrLimit, api.ErrLimit},
		{one(4), 4, 1, api.OK, api.OK},
		{one(1), math.MaxInt, 0, api.ErrLimit, api.ErrLimit},
		{one(1), math.MinInt, 9, api.ErrLimit, api.ErrLimit},
		{one(1), 1, 2, api.ErrMissing, api.OK},
		{one(1), 0, -1, api.ErrMissing, api.OK},
		{one(1), 1, math.MaxInt, api.ErrMissing, api.OK},
		{one(1), 1, math.MinInt, api.ErrMissing, api.OK},
		{near(), 1, 3, api.ErrMissing, api.OK},
	} {
		cells, e := branch.Cells(x.c, x.after, x.ford)
		sure, f := branch.Sure(x.c, x.after)
		bare, g := branch.Bare(x.c, x.after)
		if e != x.e || f != x.f || g != x.f || e != api.OK && !zero(cells) || f != api.OK && !zero(sure, bare) {
			t.Error(i, cells, sure, bare, e, f, g)
		}
	}
}

// P3.4: what has moved for certain, how far, and how many branches must be set anew.
func TestFates(t *testing.T) {
	both := one(1)
	both.Sands = sands(sand(0, 5, 1))
	for i, x := range []struct {
		c      branch.Channel
		fates  []branch.Fate
		shifts []api.Span
		anew   api.Span
	}{
		{one(0), fates(branch.Stays, branch.Stays), spans(0, 0, 0, 0), span(0, 0)},
		{one(1), fates(branch.Open, branch.Stays), spans(-1, 1, 0, 0), span(0, 1)},
		{two(), fates(branch.Moved, branch.Stays), spans(-1, 1, 0, 0), span(1, 1)}, // example 2
		{with(two(), up(1, 2)), fates(branch.Moved, branch.Stays), spans(1, 1, 0, 0), span(1, 1)},
		{one(1, up(1, 0)), fates(branch.Moved, branch.Stays), spans(-1, -1, 0, 0), span(1, 1)},
		{one(1, up(1, 1)), fates(branch.Stays, branch.Stays), spans(0, 0, 0, 0), span(0, 0)},
		{one(2), fates(branch.Open, branch.Stays), spans(-1, 2, 0, 0), span(0, 1)},
		{one(2, gone(1, 1)), fates(branch.Open, branch.Stays), spans(-1, 2, 0, 0), span(0, 1)}, // it can have come back
		{one(2, up(1, 0), up(2, 1)), fates(branch.Stays, branch.Stays), spans(0, 0, 0, 0), span(0, 0)},
		{both, fates(branch.Open, branch.Open), spans(-1, 1, -1, 1), span(0, 2)},
		{with(both, gone(1, 1)), fates(branch.Moved, branch.Open), spans(-1, 1, -1, 1), span(1, 2)},
		{with(with(both, gone(1, 1)), gone(1, 4)), fates(branch.Moved, branch.Moved), spans(-1, 1, -1, 1), span(2, 2)},
		{near(), fates(branch.Open, branch.Open, branch.Open), spans(-1, 1, -1, 1, -1, 1), span(0, 3)},
		{with(near(), up(1, 0)), fates(branch.Moved, branch.Open, branch.Open), spans(-1, -1, -1, 1, -1, 1), span(1, 3)},
		// The branches that are seen there are those of other fords.
		{with(with(near(), gone(1, 0)), gone(1, 1)), fates(branch.Moved, branch.Moved, branch.Moved), spans(1, 1, 1, 1, 1, 1), span(3, 3)},
		{with(with(near(), gone(1, 1)), gone(1, 4)), fates(branch.Moved, branch.Stays, branch.Stays), spans(-1, -1, 0, 0, 0, 0), span(1, 1)},
	} {
		got, e := branch.Fates(x.c)
		anew, f := branch.Anew(x.c)
		if !slices.Equal(got, x.fates) || anew != x.anew || e != api.OK || f != api.OK {
			t.Error(i, got, anew, e, f)
		}
		for ford, want := range x.shifts {
			if s, e := branch.Shift(x.c, ford); s != want || e != api.OK {
				t.Error(i, ford, s, e)
			}
		}
	}
}

// spans returns the spans with these ends.
func spans(ends ...int) []api.Span {
	var out []api.Span
	for i := 0; i < len(ends); i += 2 {
		out = append(out, span(ends[i], ends[i+1]))
	}
	return out
}

// P3.4: a ford that is missing, and channels that no course fits.
func TestFatesErrors(t *testing.T) {
	none := one(1, gone(1, 4))
	got, e := branch.Fates(none)
	anew, f := branch.Anew(none)
	if !zero(got, anew) || e != api.ErrClash || f != api.ErrClash {
		t.Error(got, anew, e, f)
	}
	for i, x := range []struct {
		c    branch.Channel
		ford int
		e    api.Errno
	}{
		{none, 0, api.ErrClash}, {none, 1, api.ErrClash}, {none, 2, api.ErrMissing}, {none, -1, api.ErrMissing},
		{one(1), 2, api.ErrMissing}, {one(1), -1, api.ErrMissing}, {one(1), math.MaxInt, api.ErrMissing}, {one(1), math.MinInt, api.ErrMissing},
		{near(), 2, api.OK}, {near(), 3, api.ErrMissing},
	} {
		if s, e := branch.Shift(x.c, x.ford); e != x.e || e != api.OK && !zero(s) {
			t.Error(i, s, e)
		}
	}
}

// checkAfter checks where fords are after some tides, by all courses that fit.
func checkAfter(t *testing.T, c branch.Channel, after int, fitting [][][]int) {
	t.Helper()
	o := slow{c}
	for ford := range c.Fords {
		cells, e := branch.Cells(c, after, ford)
		want := o.cellsThat(func(cell int) bool {
			return slices.ContainsFunc(fitting, func(course [][]int) bool { return course[after][ford] == cell })
		})
		if !slices.Equal(cells, want) || e != api.OK {
			t.Error(c, after, ford, cells, want, e)
		}
	}
	sure, e := branch.Sure(c, after)
	wantSure := o.cellsThat(func(cell int) bool {
		return !slices.ContainsFunc(fitting, func(course [][]int) bool { return !slices.Contains(course[after], cell) })
	})
	bare, f := branch.Bare(c, after)
	wantBare := o.cellsThat(func(cell int) bool {
		return !slices.ContainsFunc(fitting, func(course [][]int) bool { return slices.Contains(course[after], cell) })
	})
	if !slices.Equal(sure, wantSure) || !slices.Equal(bare, wantBare) || e != api.OK || f != api.OK {
		t.Error(c, after, sure, wantSure, bare, wantBare, e, f)
	}
}

// checkMoved checks what has moved, by all courses that fit.
func checkMoved(t *testing.T, c branch.Channel, fitting [][][]int) {
	t.Helper()
	var want []branch.Fate
	for ford, cell := range c.Fords {
		shift := spanOf(fitting, func(course [][]int) int { return course[c.Tides][ford] - cell })
		if s, e := branch.Shift(c, ford); s != shift || e != api.OK {
			t.Error(c, ford, s, shift, e)
		}
		stays := 0
		for _, course := range fitting {
			if course[c.Tides][ford] == cell {
				stays++
			}
		}
		switch stays {
		case len(fitting):
			want = append(want, branch.Stays)
		case 0:
			want = append(want, branch.Moved)
		default:
			want = append(want, branch.Open)
		}
	}
	anew := spanOf(fitting, func(course [][]int) int {
		many := 0
		for ford, cell := range c.Fords {
			if course[c.Tides][ford] != cell {
				many++
			}
		}
		return many
	})
	got, e := branch.Fates(c)
	n, f := branch.Anew(c)
	if !slices.Equal(got, want) || n != anew || e != api.OK || f != api.OK {
		t.Error(c, got, want, n, anew, e, f)
	}
}

// P3.3, P3.4: where fords can be, and what has moved, in many channels.
func TestCellsMany(t *testing.T) {
	var fit, none int
	forMany(t, 500, func(r *rand.Rand, c branch.Channel) {
		fitting := slow{c}.fitting()
		if len(fitting) > 0 {
			fit++
			for after := range c.Tides + 1 {
				checkAfter(t, c, after, fitting)
			}
			checkMoved(t, c, fitting)
			return
		}
		none++
		after, ford := r.Intn(c.Tides+1), r.Intn(len(c.Fords))
		cells, e1 := branch.Cells(c, after, ford)
		sure, e2 := branch.Sure(c, after)
		bare, e3 := branch.Bare(c, after)
		got, e4 := branch.Fates(c)
		shift, e5 := branch.Shift(c, ford)
		anew, e6 := branch.Anew(c)
		errors := []api.Errno{e1, e2, e3, e4, e5, e6}
		if !zero(cells, sure, bare, got, shift, anew) || slices.ContainsFunc(errors, func(e api.Errno) bool { return e != api.ErrClash }) {
			t.Error(c, cells, sure, bare, got, shift, anew, errors)
		}
	})
	if fit < 100 || none < 50 {
		t.Error("too few channels of a kind to show anything", fit, none)
	}
}
