package fog_test

import (
	"math/rand"
	"slices"
	"testing"

	"laurel/api"
	"laurel/fog"
)

// P5.5: the pairs of places that no blast of a choice tells apart.
func TestApart(t *testing.T) {
	all := pairs([2]int{0, 1}, [2]int{0, 2}, [2]int{1, 2})
	for i, x := range []struct {
		f      fog.Fog
		minute int
		choice [][2]int
		want   [][2]int
	}{
		{row(yes(0)), 2, nil, all},
		{row(yes(0)), 2, pairs(), all},
		{row(yes(0)), 2, pairs([2]int{0, 1}, [2]int{1, 1}), pairs([2]int{0, 1})}, // example 4
		{row(yes(0)), 2, pairs([2]int{0, 1}, [2]int{2, 1}), nil},
		{row(yes(0)), 2, pairs([2]int{0, 0}, [2]int{1, 0}), nil},
		{row(yes(0)), 2, pairs([2]int{0, 0}), pairs([2]int{1, 2})},
		{row(yes(0)), 2, pairs([2]int{1, 0}), pairs([2]int{0, 2})},
		{row(yes(0)), 2, pairs([2]int{3, 0}), all}, // blown where the cart cannot be
		{row(yes(0)), 2, pairs([2]int{3, 1}), pairs([2]int{0, 1})},
		{row(yes(0)), 2, pairs([2]int{3, 1}, [2]int{3, 2}), nil}, // two blasts at one place
		{row(yes(0)), 2, pairs([2]int{3, 7}, [2]int{3, 7}, [2]int{0, 3}), all},
		{row(yes(0)), 1, nil, pairs([2]int{0, 1})},
		{row(yes(0)), 0, nil, nil}, // one place only
		{row(), 0, pairs([2]int{3, 7}), nil},
		{row(), 2, nil, pairs([2]int{0, 1}, [2]int{0, 2}, [2]int{0, 3}, [2]int{1, 2}, [2]int{1, 3}, [2]int{2, 3})},
		{row(), 2, pairs([2]int{1, 1}), pairs([2]int{0, 1}, [2]int{0, 2}, [2]int{1, 2})},
		{row(), 2, slices.Repeat(pairs([2]int{1, 1}), 1000), pairs([2]int{0, 1}, [2]int{0, 2}, [2]int{1, 2})},
		{cut(), 0, pairs([2]int{0, 7}), nil},
		{cut(), 0, pairs([2]int{5, 7}), pairs([2]int{0, 3})}, // no way leads there from either
		{cut(no(1)), 3, pairs([2]int{4, 7}, [2]int{2, 0}), pairs([2]int{0, 1})},
	} {
		if got, e := fog.Apart(x.f, 0, x.minute, x.choice); !slices.Equal(got, x.want) || e != api.OK {
			t.Error(i, got, e)
		}
	}
}

// P5.5, R1, R2: the errors of cart and minute come first, then missing places, then loudnesses, wherever they stand; then that no walk fits.
func TestApartErrors(t *testing.T) {
	good := [2]int{3, 7}
	for i, x := range []struct {
		choice [][2]int
		e      api.Errno
	}{
		{nil, api.OK},
		{pairs(good, [2]int{0, 0}), api.OK},
		{pairs(good, [2]int{4, 0}), api.ErrMissing},
		{pairs([2]int{-1, 0}, good), api.ErrMissing},
		{pairs([2]int{0, 8}, [2]int{4, 0}), api.ErrMissing},
		{pairs([2]int{4, 8}), api.ErrMissing},
		{pairs([2]int{-1, -1}), api.ErrMissing},
		{pairs([2]int{0, 8}, good), api.ErrLimit},
		{pairs(good, [2]int{0, -1}), api.ErrLimit},
	} {
		for _, n := range farNumbers() {
			if _, e := fog.Apart(row(), 0, 2, append(slices.Clone(x.choice), [2]int{n, 0})); e != api.ErrMissing {
				t.Error(i, n, e)
			}
			if _, e := fog.Apart(row(), 0, 2, pairs(good, [2]int{0, n})); e != api.ErrLimit {
				t.Error(i, n, e)
			}
		}
		for _, f := range []fog.Fog{row(), none()} {
			for _, c := range someOf(0, 0) {
				for _, minute := range someOf(0, 2) {
					want := x.e
					switch {
					case c != 0:
						want = api.ErrMissing
					case !isIn(minute, 0, 2):
						want = api.ErrLimit
					case want == api.OK && len(f.Carts[0].Reports) > 0:
						want = api.ErrClash
					}
					if got, e := fog.Apart(f, c, minute, x.choice); e != want || e != api.OK && !zero(got) {
						t.Error(i, c, minute, got, e, want)
					}
				}
			}
		}
	}
}

// P5.5, P5.6: places that no blast tells apart, the fewest that decide, and the one that decides most.
func TestDecide(t *testing.T) {
	ring := joined(startingAt(row(), 0, 1, 2, 3), [2]int{0, 1}, [2]int{1, 2}, [2]int{2, 3}, [2]int{3, 0})
	for i, x := range []struct {
		f            fog.Fog
		minute, loud int
		twins        [][2]int
		decide       []int
		place, most  int
		e            api.Errno
	}{
		{row(yes(0)), 2, 0, nil, list(0, 1), 0, 2, api.OK}, // example 4
		{row(yes(0)), 2, 1, nil, list(0, 2), 0, 2, api.OK},
		{row(yes(0)), 2, 2, pairs([2]int{1, 2}), nil, 3, 2, api.ErrNone},
		{row(yes(0)), 2, 3, pairs([2]int{0, 1}, [2]int{0, 2}, [2]int{1, 2}), nil, 0, 3, api.ErrNone}, // example 5
		{row(yes(0)), 2, 7, pairs([2]int{0, 1}, [2]int{0, 2}, [2]int{1, 2}), nil, 0, 3, api.ErrNone},
		{row(yes(0)), 1, 0, nil, list(0), 0, 1, api.OK},
		{row(yes(0)), 1, 1, nil, list(2), 2, 1, api.OK},
		{row(no(0)), 2, 0, nil, list(1, 2), 1, 2, api.OK},
		{row(no(0)), 2, 1, nil, list(0, 1), 0, 2, api.OK}, // from where the cart cannot be
		{row(), 0, 0, nil, nil, 0, 1, api.OK},             // no blast is needed
		{row(), 0, 7, nil, nil, 0, 1, api.OK},
		{row(yes(1)), 2, 4, nil, nil, 0, 1, api.OK},
		{row(), 2, 0, nil, list(0, 1, 2), 0, 3, api.OK},
		{row(), 2, 1, nil, list(0, 1, 2), 0, 2, api.OK},
		{row(), 2, 2, pairs([2]int{1, 2}), nil, 0, 3, api.ErrNone},
		{ring, 1, 0, nil, list(0, 1, 2), 0, 3, api.OK},
		{ring, 1, 1, nil, list(0, 1, 2), 0, 3, api.OK},
		{ring, 1, 2, allOf(4), nil, 0, 4, api.ErrNone},
		{cut(), 0, 7, nil, list(0), 0, 1, api.OK},
		{cut(no(1)), 3, 7, pairs([2]int{0, 1}, [2]int{0, 2}, [2]int{1, 2}), nil, 0, 3, api.ErrNone},
		{cut(no(1)), 3, 0, nil, list(0, 1, 2), 0, 3, api.OK},
		{cut(no(1)), 3, 1, nil, list(0, 2), 0, 2, api.OK},
		{cut(no(3)), 1, 0, nil, list(0, 3), 0, 2, api.OK},
		{startingAt(cut(), 5), 3, 0, nil, nil, 0, 1, api.OK},
	} {
		twins, e := fog.Twins(x.f, 0, x.minute, x.loud)
		decide, g := fog.Decide(x.f, 0, x.minute, x.loud)
		place, most, h := fog.Ask(x.f, 0, x.minute, x.loud)
		if !slices.Equal(twins, x.twins) || !slices.Equal(decide, x.decide) || place != x.place || most != x.most || e != api.OK || g != x.e || h != api.OK {
			t.Error(i, twins, decide, place, most, e, g, h)
		}
	}
}

// allOf returns all pairs of so many places.
func allOf(places int) [][2]int {
	var out [][2]int
	for a := range places {
		for b := a + 1; b < places; b++ {
			out = append(out, [2]int{a, b})
		}
	}
	return out
}

// P5.6: as many places as can be needed, in lexicographic order before others that decide.
func TestDecideAll(t *testing.T) {
	f := fog.Fog{Sands: fog.Sands{Places: 8}, Carts: []fog.Cart{cart(list(0, 1, 2, 3, 4, 5, 6, 7))}}
	if got, e := fog.Decide(f, 0, 0, 7); !slices.Equal(got, list(0, 1, 2, 3, 4, 5, 6)) || e != api.OK {
		t.Error(got, e)
	}
	f.Carts[0].Start = list(4, 6, 7)
	if got, e := fog.Decide(f, 0, 0, 3); !slices.Equal(got, list(4, 6)) || e != api.OK {
		t.Error(got, e)
	}
	if place, most, e := fog.Ask(f, 0, 0, 3); place != 4 || most != 2 || e != api.OK {
		t.Error(place, most, e)
	}
	if got, e := fog.Twins(f, 0, 0, 3); !zero(got) || e != api.OK {
		t.Error(got, e)
	}
}

// P5.5, P5.6, R1, R2: the errors of cart, minute and loudness come in this order, and then that no walk fits.
func TestDecideErrors(t *testing.T) {
	for _, f := range []fog.Fog{seen(), followed(none(), cart(list(3), yes(0)))} {
		clash := api.OK
		if n, _ := fog.Count(f, 0); n == 0 {
			clash = api.ErrClash
		}
		for _, c := range someOf(0, 1) {
			for _, minute := range someOf(0, 2) {
				for _, loud := range append(outside(0, 7), 0, 1) {
					want := clash
					switch {
					case !isIn(c, 0, 1):
						want = api.ErrMissing
					case !isIn(minute, 0, 2) || !isIn(loud, 0, 7):
						want = api.ErrLimit
					}
					twins, e := fog.Twins(f, c, minute, loud)
					decide, g := fog.Decide(f, c, minute, loud)
					place, most, h := fog.Ask(f, c, minute, loud)
					if e != want || g != want || h != want || e != api.OK && !zero(twins, decide, place, most) {
						t.Error(c, minute, loud, twins, decide, place, most, e, g, h)
					}
				}
			}
		}
	}
}

// P5.5: what choices tell apart in many fogs.
func TestApartMany(t *testing.T) {
	var asked int
	forMany(t, 400, func(r *rand.Rand, f fog.Fog) {
		o := slow{f}
		fitting := o.fitting(0)
		if len(fitting) == 0 {
			return
		}
		for minute := range last(f) + 1 {
			places := o.at(fitting, minute)
			for range 5 {
				var choice [][2]int
				for range r.Intn(4) {
					choice = append(choice, [2]int{r.Intn(f.Sands.Places), r.Intn(4)})
				}
				want := o.apart(places, choice)
				if got, e := fog.Apart(f, 0, minute, choice); !slices.Equal(got, want) || e != api.OK {
					t.Error(f, minute, choice, got, want, e)
				}
				if len(want) > 0 && len(choice) > 0 {
					asked++
				}
			}
		}
	})
	if asked < 500 {
		t.Error("too few choices that leave pairs to show anything", asked)
	}
}

// P5.5, P5.6: what decides in many fogs.
func TestDecideMany(t *testing.T) {
	var decided, open int
	forMany(t, 400, func(r *rand.Rand, f fog.Fog) {
		o := slow{f}
		c, minute := r.Intn(len(f.Carts)), r.Intn(last(f)+1)
		fitting := o.fitting(c)
		if len(fitting) == 0 {
			return
		}
		places := o.at(fitting, minute)
		for loud := range 5 {
			want := o.apart(places, loudly(o.all(), loud))
			if got, e := fog.Twins(f, c, minute, loud); !slices.Equal(got, want) || e != api.OK {
				t.Error(f, c, minute, loud, got, want, e)
			}
			fewest, found := first(f.Sands.Places, func(l []int) bool { return len(o.apart(places, loudly(l, loud))) == 0 })
			got, e := fog.Decide(f, c, minute, loud)
			if !slices.Equal(got, fewest) || (e == api.OK) != found || !found && e != api.ErrNone {
				t.Error(f, c, minute, loud, got, fewest, e)
			}
			if !found {
				open++
			} else if len(fewest) > 1 {
				decided++
			}
			best := slices.MinFunc(o.all(), func(a, b int) int { return o.left(places, a, loud) - o.left(places, b, loud) })
			if place, most, e := fog.Ask(f, c, minute, loud); place != best || most != o.left(places, best, loud) || e != api.OK {
				t.Error(f, c, minute, loud, place, most, best, e)
			}
		}
	})
	if decided < 50 || open < 50 {
		t.Error("too few fogs of a kind to show anything", decided, open)
	}
}
