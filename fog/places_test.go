package fog_test

import (
	"math/rand"
	"slices"
	"testing"

	"laurel/api"
	"laurel/fog"
)

// P5.3: where a cart can be, minute by minute, and how often it can have stayed.
func TestAt(t *testing.T) {
	for i, x := range []struct {
		f      fog.Fog
		places [][]int
		still  int
	}{
		{row(), [][]int{{1}, {0, 1, 2}, {0, 1, 2, 3}}, 2},
		{row(yes(0)), [][]int{{1}, {0, 1}, {0, 1, 2}}, 2}, // example 2
		{row(no(0)), [][]int{{1}, {2}, {1, 2, 3}}, 1},
		{row(yes(1)), [][]int{{1}, {2}, {3}}, 0}, // what is heard later tells what was before
		{row(no(0), no(1)), [][]int{{1}, {2}, {1, 2}}, 1},
		{startingAt(row(yes(1)), 0, 1, 3), [][]int{{1, 3}, {2, 3}, {3}}, 2},
		{startingAt(row(no(0), no(1)), 0, 3), [][]int{{3}, {2, 3}, {1, 2}}, 1},
		{lasting(joined(row()), 8), slices.Repeat([][]int{{1}}, 9), 8},
		{joined(startingAt(row(), 0, 2)), [][]int{{0, 2}, {0, 2}, {0, 2}}, 2},
		{cut(yes(0)), [][]int{{0}, {0, 1}, {0, 1, 2}, {0, 1, 2}}, 3},
		{cut(no(0), yes(1)), [][]int{{3}, {3, 4}, {3, 4}, {4}}, 2},
		{cut(yes(3)), [][]int{{0}, {1}, {0, 1, 2}, {0, 1, 2}}, 2},
		{cut(yes(0), no(3)), [][]int{{0}, {0}, {0, 1}, {0, 1, 2}}, 3},
	} {
		if still, e := fog.Still(x.f, 0); still != x.still || e != api.OK {
			t.Error(i, still, e)
		}
		for minute, want := range x.places {
			if got, e := fog.At(x.f, 0, minute); !slices.Equal(got, want) || e != api.OK {
				t.Error(i, minute, got, e)
			}
		}
	}
}

// P5.3: a walk that stays often can be led away from where another one would have stayed more often so far.
func TestStill(t *testing.T) {
	// In minute 3 the cart was at place 3, in minute 5 not farther than one track from place 0.
	f := fog.Fog{
		Sands:  fog.Sands{Places: 4, Minutes: 6, Tracks: [][2]int{{0, 1}, {1, 2}, {2, 3}}},
		Blasts: []fog.Blast{blast(3, 3, 0), blast(5, 0, 1)},
		Carts:  []fog.Cart{cart(list(0, 1, 2), yes(0), yes(1)), cart(list(0), yes(0)), cart(list(1), yes(1), no(0))},
	}
	for c, want := range list(3, 3, 6) {
		if n, e := fog.Still(f, c); n != want || e != api.OK {
			t.Error(c, n, e)
		}
	}
}

// P5.3: whether all walks that fit hear a blast, or none.
func TestHeard(t *testing.T) {
	for i, x := range []struct {
		f             fog.Fog
		blast         int
		always, never bool
	}{
		{row(), 0, false, false},
		{row(), 1, false, false},
		{row(yes(0)), 0, true, false},
		{row(no(0)), 0, false, true},
		{row(yes(0)), 1, false, true}, // example 3
		{row(no(0)), 1, false, false},
		{row(yes(1)), 0, false, true},
		{row(no(1)), 0, false, false},
		{blown(row(), blast(2, 1, 2)), 2, true, false},
		{blown(row(), blast(0, 1, 0)), 2, true, false},
		{blown(row(), blast(0, 3, 1)), 2, false, true},
		{cut(), 2, false, true},
		{cut(), 0, false, false},
		{cut(yes(0)), 1, false, true},
		{cut(yes(1)), 0, false, true},
		{cut(yes(1)), 1, true, false},
	} {
		if always, never, e := fog.Heard(x.f, 0, x.blast); always != x.always || never != x.never || e != api.OK {
			t.Error(i, always, never, e)
		}
	}
}

// P5.3: when two carts can have met.
func TestMet(t *testing.T) {
	f := followed(row(yes(0)), cart(list(3)), cart(list(0), no(0)))
	g := followed(row(no(0)), cart(list(3)), cart(list(0, 3)))
	for i, x := range []struct {
		f    fog.Fog
		a, b int
		want []int
		e    api.Errno
	}{
		{f, 0, 1, list(2), api.OK},
		{f, 1, 0, list(2), api.OK},
		{f, 0, 0, list(0, 1, 2), api.OK}, // a cart with itself
		{f, 1, 1, list(0, 1, 2), api.OK},
		{f, 0, 2, nil, api.ErrClash}, // no walk fits the last one
		{f, 2, 0, nil, api.ErrClash},
		{f, 2, 2, nil, api.ErrClash},
		{g, 0, 1, list(1, 2), api.OK},
		{g, 0, 2, list(1, 2), api.OK},
		{g, 2, 1, list(0, 1, 2), api.OK},
		{followed(row(), cart(list(1))), 0, 1, list(0, 1, 2), api.OK},
		{followed(row(yes(1)), cart(list(1), yes(0))), 0, 1, list(0), api.OK}, // together at first, and not again
		{followed(row(yes(1)), cart(list(0), yes(0))), 0, 1, nil, api.OK},
		{cut(), 0, 1, list(1, 2, 3), api.OK},
		{cut(yes(0), no(3)), 0, 1, list(2, 3), api.OK},
	} {
		if got, e := fog.Met(x.f, x.a, x.b); !slices.Equal(got, x.want) || e != x.e {
			t.Error(i, got, e)
		}
	}
}

// P5.3: two carts can be at the same places in different minutes, and still not have met.
func TestMetNever(t *testing.T) {
	f := followed(joined(row()), cart(list(0, 2, 3)))
	if got, e := fog.Met(f, 0, 1); !zero(got) || e != api.OK {
		t.Error(got, e)
	}
	past := followed(row(yes(1)), cart(list(2), yes(0)))
	past.Blasts[0].Loud = 0
	if got, e := fog.Met(past, 0, 1); e != api.ErrClash || !zero(got) {
		t.Error(got, e)
	}
	past.Blasts[0].Place = 1
	if got, e := fog.Met(past, 0, 1); e != api.OK || !zero(got) {
		t.Error(got, e)
	}
}

// P5.3, R1, R2: the error of a cart comes first, then that of a minute or of a blast, then that no walk fits.
func TestAtErrors(t *testing.T) {
	for _, f := range []fog.Fog{seen(), followed(none(), cart(list(3), yes(0)))} {
		clash := api.OK
		if n, _ := fog.Count(f, 0); n == 0 {
			clash = api.ErrClash
		}
		for _, c := range someOf(0, 1) {
			e := clash
			if !isIn(c, 0, 1) {
				e = api.ErrMissing
			}
			if n, g := fog.Still(f, c); g != e || g != api.OK && n != 0 {
				t.Error(c, n, g)
			}
			for _, n := range someOf(0, 2) {
				want := e
				if isIn(c, 0, 1) && !isIn(n, 0, 2) {
					want = api.ErrLimit
				}
				if got, g := fog.At(f, c, n); g != want || g != api.OK && !zero(got) {
					t.Error(c, n, got, g)
				}
			}
			for _, n := range someOf(0, 1) {
				want := e
				if !isIn(n, 0, 1) {
					want = api.ErrMissing
				}
				if always, never, g := fog.Heard(f, c, n); g != want || g != api.OK && (always || never) {
					t.Error(c, n, always, never, g)
				}
				if got, g := fog.Met(f, c, n); g != want || g != api.OK && !zero(got) {
					t.Error(c, n, got, g)
				}
			}
		}
	}
}

// checkHeard checks what is told of all blasts, by the walks that fit a cart.
func checkHeard(t *testing.T, f fog.Fog, c int, fitting [][]int) {
	t.Helper()
	for b, x := range f.Blasts {
		heard := 0
		for _, walk := range fitting {
			if (slow{f}).hears(b, walk[x.Minute]) {
				heard++
			}
		}
		always, never, e := fog.Heard(f, c, b)
		if always != (heard == len(fitting)) || never != (heard == 0) || e != api.OK {
			t.Error(f, c, b, always, never, heard, e)
		}
	}
}

// P5.3: the places of many carts.
func TestPlacesMany(t *testing.T) {
	var clash, moved int
	forMany(t, 1000, func(_ *rand.Rand, f fog.Fog) {
		o := slow{f}
		for c := range f.Carts {
			fitting := o.fitting(c)
			still, e := fog.Still(f, c)
			if len(fitting) == 0 {
				clash++
				got, g := fog.At(f, c, 0)
				if !zero(still, got) || e != api.ErrClash || g != api.ErrClash {
					t.Error(f, c, still, got, e, g)
				}
				continue
			}
			most := 0
			for _, walk := range fitting {
				most = max(most, stays(walk))
			}
			if most < last(f) {
				moved++
			}
			if still != most || e != api.OK {
				t.Error(f, c, still, most, e)
			}
			for minute := range last(f) + 1 {
				if got, e := fog.At(f, c, minute); !slices.Equal(got, o.at(fitting, minute)) || e != api.OK {
					t.Error(f, c, minute, got, e)
				}
			}
			checkHeard(t, f, c, fitting)
		}
	})
	if clash < 50 || moved < 50 {
		t.Error("too few carts of a kind to show anything", clash, moved)
	}
}

// P5.3: the meetings of many carts.
func TestMetMany(t *testing.T) {
	var some, never int
	forMany(t, 500, func(_ *rand.Rand, f fog.Fog) {
		o := slow{f}
		for a := range f.Carts {
			for b := range f.Carts {
				one, other := o.fitting(a), o.fitting(b)
				got, e := fog.Met(f, a, b)
				if len(one) == 0 || len(other) == 0 {
					if !zero(got) || e != api.ErrClash {
						t.Error(f, a, b, got, e)
					}
					continue
				}
				var want []int
				for minute := range last(f) + 1 {
					if len(common(o.at(one, minute), o.at(other, minute))) > 0 {
						want = append(want, minute)
					}
				}
				if !slices.Equal(got, want) || e != api.OK {
					t.Error(f, a, b, got, want, e)
				}
				if len(want) == 0 {
					never++
				} else if len(want) <= last(f) {
					some++
				}
			}
		}
	})
	if some < 50 || never < 50 {
		t.Error("too few carts of a kind to show anything", some, never)
	}
}
