package fog_test

import (
	"math"
	"math/rand"
	"slices"
	"testing"

	"laurel/api"
	"laurel/fog"
)

// P5.2: lists that are walks, or not, and whether they fit.
func TestFits(t *testing.T) {
	two := startingAt(row(), 1, 3)
	for i, x := range []struct {
		f    fog.Fog
		walk []int
		is   bool
	}{
		{row(), list(1, 1, 1), true},
		{row(), list(1, 0, 1), true},
		{row(), list(1, 2, 3), true},
		{row(), list(1, 2, 1), true}, // tracks lead in both directions
		{row(), list(1, 0, 0), true},
		{row(), list(1, 0, 2), false},
		{row(), list(1, 3, 3), false},
		{row(), list(1, 1, 3), false},
		{row(), list(0, 1, 2), false}, // the cart does not start there
		{row(), list(2, 1, 0), false},
		{two, list(3, 2, 1), true},
		{two, list(1, 2, 3), true},
		{two, list(2, 2, 2), false},
		{row(), list(1, 2), false},
		{row(), list(1), false},
		{row(), list(1, 1, 1, 1), false},
		{row(), list(1, 2, 3, 4), false},
		{row(), nil, false},
		{row(), list(), false},
		{row(), list(1, 1, 4), false},
		{row(), list(4, 1, 1), false},
		{row(), list(1, -1, 1), false},
		{row(), list(1, 1, math.MaxInt), false},
		{row(), list(math.MinInt, 1, 1), false},
		{row(), slices.Repeat(list(1), 1000), false},
		{row(yes(0)), list(1, 1, 2), true}, // example 2
		{row(yes(0)), list(1, 0, 0), true},
		{row(yes(0)), list(1, 2, 2), false},
		{row(no(0)), list(1, 2, 2), true},
		{row(no(0)), list(1, 1, 2), false},
		{row(no(0), yes(1)), list(1, 2, 3), true},
		{row(no(0), yes(1)), list(1, 2, 2), false},
		{row(yes(1), no(0)), list(1, 2, 3), true},
		{row(yes(1)), list(1, 3, 3), false}, // hears what it should, but is no walk
		{row(no(1)), list(1, 2, 3), false},
		{row(no(1)), list(1, 2, 2), true},
		{none(), list(1, 1, 3), false},
		{cut(yes(0)), list(0, 0, 0, 0), true}, // a blast in minute 0
		{cut(yes(0)), list(3, 3, 4, 4), false},
		{cut(no(0)), list(3, 3, 4, 4), true},
		{cut(no(0), yes(1)), list(3, 3, 4, 4), true}, // and one in the last minute
		{cut(no(0), yes(1)), list(3, 4, 4, 3), false},
		{cut(no(2)), list(3, 4, 4, 3), true}, // blown where no way leads
		{cut(yes(2)), list(3, 4, 4, 3), false},
		{lasting(cut(), 8), list(0, 0, 1, 1, 2, 2, 1, 1, 0), true},
	} {
		if is, e := fog.Fits(x.f, 0, x.walk); is != x.is || e != api.OK {
			t.Error(i, is, e)
		}
	}
	at := joined(lasting(fog.Fog{Sands: fog.Sands{Places: 2}, Carts: []fog.Cart{cart(list(1))}}, 0))
	for i, x := range []struct {
		walk []int
		is   bool
	}{{list(1), true}, {list(0), false}, {nil, false}, {list(1, 1), false}, {list(2), false}} {
		if is, e := fog.Fits(at, 0, x.walk); is != x.is || e != api.OK {
			t.Error(i, is, e)
		}
	}
}

// P5.2: each cart has walks of its own.
func TestFitsOther(t *testing.T) {
	for i, x := range []struct {
		cart int
		walk []int
		is   bool
	}{
		{0, list(0, 1, 2, 1), true}, {1, list(0, 1, 2, 1), false}, {1, list(2, 2, 1, 0), true}, {0, list(2, 2, 1, 0), false}, {1, list(5, 5, 5, 5), true}, {1, list(4, 3, 3, 4), true},
		{0, list(3, 3, 3, 3), false}, // the first cart heard blast 0
	} {
		if is, e := fog.Fits(cut(yes(0)), x.cart, x.walk); is != x.is || e != api.OK {
			t.Error(i, is, e)
		}
	}
}

// P5.2: how many walks fit.
func TestCount(t *testing.T) {
	whole := widest()
	whole.Sands.Tracks = slices.DeleteFunc(whole.Sands.Tracks, func(x [2]int) bool { return x[0] > 4 || x[1] > 4 })
	whole.Carts[0].Reports = nil
	for i, x := range []struct {
		f       fog.Fog
		cart, n int
	}{
		{row(), 0, 8}, // example 2
		{row(yes(0)), 0, 5},
		{row(no(0)), 0, 3},
		{row(yes(1)), 0, 1},
		{row(no(1)), 0, 7},
		{none(), 0, 0},
		{row(no(0), no(1)), 0, 2},
		{lasting(joined(row()), 8), 0, 1},
		{startingAt(row(), 0, 1, 2, 3), 0, 26},
		{cut(yes(0)), 0, 12},
		{cut(no(0)), 0, 8},
		{cut(no(0), yes(1)), 0, 4},
		{cut(yes(2)), 0, 0},
		{cut(yes(2)), 1, 12 + 8 + 1},
		{followed(row(), cart(list(3), yes(0))), 1, 0},
		{followed(row(), cart(list(3))), 1, 5},
		{whole, 0, 5*5*5*5*5*5*5*5*5 + 3}, // five places with all tracks between them, and three without any
	} {
		if n, e := fog.Count(x.f, x.cart); n != x.n || e != api.OK {
			t.Error(i, n, e)
		}
	}
}

// checkWalks asks for a walk through each place in each minute, and holds it against all walks that fit.
func checkWalks(t *testing.T, f fog.Fog, c int, fitting [][]int) {
	t.Helper()
	for minute := range last(f) + 1 {
		for place := range f.Sands.Places {
			walk, e := fog.Walk(f, c, minute, place)
			if !passes(fitting, minute, place) {
				if !zero(walk) || e != api.ErrNone {
					t.Error(f, c, minute, place, walk, e)
				}
				continue
			}
			isOne := slices.ContainsFunc(fitting, func(x []int) bool { return slices.Equal(x, walk) })
			if e != api.OK || !isOne || walk[minute] != place {
				t.Error(f, c, minute, place, walk, e)
				continue
			}
			if is, e := fog.Fits(f, c, walk); !is || e != api.OK {
				t.Error(f, c, minute, place, walk, is, e)
			}
		}
	}
}

// P5.2: walks through a place in a minute, where there are any.
func TestWalk(t *testing.T) {
	for i, x := range []struct {
		f             fog.Fog
		minute, place int
		want          []int
		e             api.Errno
	}{
		{row(), 2, 3, list(1, 2, 3), api.OK},
		{row(yes(1)), 0, 1, list(1, 2, 3), api.OK},
		{row(yes(1)), 1, 2, list(1, 2, 3), api.OK},
		{row(yes(1)), 1, 1, nil, api.ErrNone},
		{row(), 0, 0, nil, api.ErrNone},
		{row(), 1, 3, nil, api.ErrNone},
		{row(yes(0)), 2, 3, nil, api.ErrNone},
		{row(no(0)), 2, 0, nil, api.ErrNone},
		{none(), 0, 1, nil, api.ErrNone}, // where no walk fits there is none, and nothing clashes
		{none(), 2, 3, nil, api.ErrNone},
		{cut(), 2, 5, nil, api.ErrNone},
		{lasting(joined(row()), 2), 2, 1, list(1, 1, 1), api.OK},
	} {
		if walk, e := fog.Walk(x.f, 0, x.minute, x.place); !slices.Equal(walk, x.want) || e != x.e {
			t.Error(i, walk, e)
		}
	}
	for _, f := range fogs() {
		for c := range f.Carts {
			checkWalks(t, f, c, slow{f}.fitting(c))
		}
	}
}

// P5.2, R1, R2: the errors of a cart, of a minute and of a place come in this order.
func TestWalkErrors(t *testing.T) {
	for _, f := range []fog.Fog{seen(), followed(none(), cart(list(3), yes(0)))} {
		for _, c := range someOf(0, 1) {
			if is, e := fog.Fits(f, c, list(1, 1, 1)); isIn(c, 0, 1) != (e == api.OK) || e != api.OK && (is || e != api.ErrMissing) {
				t.Error(c, is, e)
			}
			if n, e := fog.Count(f, c); isIn(c, 0, 1) != (e == api.OK) || e != api.OK && (n != 0 || e != api.ErrMissing) {
				t.Error(c, n, e)
			}
			for _, minute := range someOf(0, 2) {
				for _, place := range someOf(0, 3) {
					want := api.OK
					switch {
					case !isIn(c, 0, 1):
						want = api.ErrMissing
					case !isIn(minute, 0, 2):
						want = api.ErrLimit
					case !isIn(place, 0, 3):
						want = api.ErrMissing
					}
					walk, e := fog.Walk(f, c, minute, place)
					if e != want && (want != api.OK || e != api.ErrNone) || e != api.OK && !zero(walk) {
						t.Error(c, minute, place, walk, e, want)
					}
				}
			}
		}
	}
}

// anyWalk returns a list that is nearly a walk of a cart.
func anyWalk(r *rand.Rand, walks [][]int) []int {
	out := slices.Clone(walks[r.Intn(len(walks))])
	for range r.Intn(3) {
		out[r.Intn(len(out))] += 1 - 2*r.Intn(2)
	}
	if r.Intn(10) == 0 {
		out = out[1:]
	}
	if r.Intn(10) == 0 {
		out = append(out, 0)
	}
	return out
}

// P5.2: the walks of many fogs.
func TestWalksMany(t *testing.T) {
	var fit, spoiled, clash int
	forMany(t, 400, func(r *rand.Rand, f fog.Fog) {
		for c := range f.Carts {
			o := slow{f}
			fitting := o.fitting(c)
			if n, e := fog.Count(f, c); n != len(fitting) || e != api.OK {
				t.Error(f, c, n, len(fitting), e)
			}
			checkWalks(t, f, c, fitting)
			if len(fitting) == 0 {
				clash++
			}
			walks := o.walks(f.Carts[c].Start)
			for range 20 {
				walk := anyWalk(r, walks)
				want := slices.ContainsFunc(fitting, func(x []int) bool { return slices.Equal(x, walk) })
				if is, e := fog.Fits(f, c, walk); is != want || e != api.OK {
					t.Error(f, c, walk, is, want, e)
				}
				if want {
					fit++
				} else {
					spoiled++
				}
			}
		}
	})
	if fit < 1000 || spoiled < 1000 || clash < 50 {
		t.Error("too few walks of a kind to show anything", fit, spoiled, clash)
	}
}
