package shut_test

import (
	"math/rand"
	"slices"
	"testing"

	"laurel/api"
	"laurel/shut"
)

const (
	o = shut.Open
	c = shut.Clean
	f = shut.Foul
)

// P7.3: the numbers of states.
func TestStateNumbers(t *testing.T) {
	if shut.Open != 0 || shut.Clean != 1 || shut.Foul != 2 {
		t.Error(shut.Open, shut.Clean, shut.Foul)
	}
}

// P7.3: states of all sacks, those that may be sold, and truths that show what they can be.
func TestStates(t *testing.T) {
	for i, x := range []struct {
		s    shut.Shore
		want []shut.State
		sold []int
	}{
		{three(), states(o, o, o, c), list(3)},                  // example 2
		{three(clean(0)), states(c, c, c, c), list(0, 1, 2, 3)}, // example 3
		{three(foul(0)), states(f, o, o, c), list(3)},           // example 3
		{three(clean(1)), states(o, c, o, c), list(1, 3)},
		{three(foul(1)), states(f, f, o, c), list(3)},
		{three(clean(2)), states(o, o, c, c), list(2, 3)},
		{three(foul(2)), states(f, o, f, c), list(3)},
		{three(foul(2), clean(1), clean(3)), states(f, c, f, c), list(1, 3)},
		{wet(), states(o, o, f, o), nil},
		{wet(clean(0)), states(c, o, f, c), list(0, 3)},
		{wet(foul(3)), states(f, o, f, f), nil},
		{wet(clean(3)), states(o, o, f, c), list(3)},
		{wet(clean(1), foul(2)), states(o, c, f, o), list(1)},
		{wet(foul(0), clean(1), clean(3)), states(f, c, f, c), list(1, 3)},
		{gap(), states(o, o), nil},
		{gap(foul(0), clean(1)), states(f, c), list(1)},
		{dry(), nil, nil},
		{rained(wet()), states(c, c, c, c), list(0, 1, 2, 3)},
		{drained(wet()), states(c, c, c, c), list(0, 1, 2, 3)},
		{rained(wet(), rain(0, 9, 9)), states(f, o, o, o), nil},
		{rained(wet(), rain(0, 8, 8)), states(f, o, c, o), list(2)},
		{widest(), states(o, o, o, o, o, o), nil},
	} {
		got, e := shut.States(x.s)
		sold, g := shut.Sold(x.s)
		if !slices.Equal(got, x.want) || e != api.OK || !slices.Equal(sold, x.sold) || g != api.OK {
			t.Error(i, got, sold, e, g)
		}
		for k, s := range x.want {
			for _, foul := range []bool{false, true} {
				showsSack(t, x.s, k, foul, s == o || (s == f) == foul)
			}
		}
	}
}

// showsSack checks that a truth is shown that fits, in which a sack is foul, or clean; or that none is, if there is none.
func showsSack(t *testing.T, s shut.Shore, sack int, foul, isThere bool) {
	t.Helper()
	got, e := shut.Shows(s, sack, foul)
	if !isThere {
		if e != api.ErrNone || !zero(got) {
			t.Error(s, sack, foul, got, e)
		}
		return
	}
	is, g := shut.Agrees(s, got)
	bad, h := shut.FoulIn(s, got)
	if e != api.OK || !is || slices.Contains(bad, sack) != foul || g != api.OK || h != api.OK {
		t.Error(s, sack, foul, got, bad, e, g, h)
	}
}

// P7.3: example 5: a truth in which sack 2 is foul.
func TestShowsFoul(t *testing.T) {
	got, e := shut.Shows(three(), 2, true)
	if e != api.OK || len(got.Falls) != 1 || got.Falls[0] < 4 || len(got.From) != 4 || got.From[2] != at(0, 3) {
		t.Error(got, e)
	}
}

// P7.3: where no truth fits, there are no states, and none is shown.
func TestStatesClash(t *testing.T) {
	for i, s := range []shut.Shore{none(), three(foul(3)), wet(clean(2)), tested(rained(wet()), foul(0))} {
		got, e := shut.States(s)
		sold, g := shut.Sold(s)
		if !zero(got, sold) || e != api.ErrClash || g != api.ErrClash {
			t.Error(i, got, sold, e, g)
		}
		for k := range s.Sacks {
			showsSack(t, s, k, true, false)
			showsSack(t, s, k, false, false)
		}
	}
}

// P7.3: states of beds, tide by tide.
func TestBed(t *testing.T) {
	for i, x := range []struct {
		s    shut.Shore
		bed  int
		want []shut.State
	}{
		{three(), 0, states(c, o, o, o, c, c)}, // example 1
		{three(), 1, states(c, o, o, o, c, c)},
		{three(), 2, states(c, c, c, c, c, c)}, // example 1
		{three(foul(0)), 0, states(c, f, f, f, c, c)},
		{three(foul(0)), 1, states(c, f, f, f, c, c)},
		{three(clean(0)), 1, states(c, c, c, c, c, c)},
		{three(clean(1)), 1, states(c, o, o, o, c, c)},
		{three(foul(1)), 2, states(c, c, c, c, c, c)},
		{wet(), 0, states(o, o, f, f, f)},
		{wet(), 1, states(o, o, f, f, f)},
		{wet(), 2, states(o, c, o, c, c)},
		{wet(clean(0)), 0, states(c, c, f, f, f)},
		{wet(foul(3)), 2, states(f, c, o, c, c)},
		{wet(clean(1)), 2, states(o, c, c, c, c)},
		{wet(foul(3), clean(1)), 2, states(f, c, c, c, c)},
		{gap(foul(0), clean(1)), 0, states(o, o)},
		{gap(foul(0), foul(1)), 1, states(o, o)},
		{dry(), 1, states(c, c, c)},
		{rained(wet(), rain(4, 3, 3)), 1, states(c, c, c, c, f)},
		{rained(wet(), rain(1, 9, 9)), 0, states(c, f, f, f, f)},
		{rained(wet(), rain(1, 8, 9)), 0, states(c, f, f, f, o)},
		{rained(wet(), rain(1, 2, 3), rain(1, 2, 2)), 0, states(c, o, o, o, c)},
		{rained(wet(), rain(1, 2, 3), rain(1, 3, 4)), 0, states(c, f, f, f, c)},
	} {
		var clean []int
		for tide, want := range x.want {
			if got, e := shut.Bed(x.s, x.bed, tide); got != want || e != api.OK {
				t.Error(i, tide, got, e)
			}
			if want == c {
				clean = append(clean, tide)
			}
		}
		if got, e := shut.Tides(x.s, x.bed); !slices.Equal(got, clean) || e != api.OK {
			t.Error(i, got, e)
		}
	}
}

// P7.3: origins that a sack has in truths that fit.
func TestFrom(t *testing.T) {
	for i, x := range []struct {
		s    shut.Shore
		sack int
		want []shut.Origin
	}{
		{three(), 0, origins(at(0, 2), at(0, 3))},
		{three(), 1, origins(at(1, 3), at(2, 3))},
		{three(), 2, origins(at(0, 3), at(0, 4), at(0, 5))},
		{three(), 3, origins(at(2, 1))},
		{three(foul(1)), 1, origins(at(1, 3))},
		{three(clean(1)), 1, origins(at(1, 3), at(2, 3))},
		{three(foul(0), clean(1)), 1, origins(at(2, 3))},
		{three(foul(0), clean(2)), 2, origins(at(0, 4), at(0, 5))}, // example 3
		{three(foul(2)), 2, origins(at(0, 3))},
		{wet(), 0, origins(at(1, 0), at(1, 1), at(1, 2))},
		{wet(clean(0)), 0, origins(at(1, 0), at(1, 1))},
		{wet(clean(1)), 1, origins(at(2, 2))},
		{wet(foul(1)), 1, origins(at(0, 2), at(2, 2))},
		{wet(foul(3)), 3, origins(at(2, 0))},
		{wet(foul(3)), 2, origins(at(0, 4), at(1, 4))},
		{gap(foul(0), clean(1)), 1, origins(at(1, 0), at(1, 1))},
	} {
		if got, e := shut.From(x.s, x.sack); !slices.Equal(got, x.want) || e != api.OK {
			t.Error(i, got, e)
		}
	}
	for sack := range 6 {
		got, e := shut.From(widest(), sack)
		if e != api.OK || len(got) != 72 || got[0] != at(0, 0) || got[11] != at(0, 11) || got[12] != at(1, 0) || got[71] != at(5, 11) {
			t.Error(sack, got, e)
		}
	}
}

// P7.3, R1, R2: the error of a sack comes before that no truth fits, and before that there is none to show.
func TestSackErrors(t *testing.T) {
	for _, s := range []shut.Shore{three(), none(), wet(), dry()} {
		many, _ := shut.Count(s)
		last := len(s.Sacks) - 1
		for _, n := range append(someOf(0, last), 0) {
			from, e := shut.From(s, n)
			dirty, g := shut.Shows(s, n, true)
			pure, h := shut.Shows(s, n, false)
			switch {
			case !isIn(n, 0, last):
				if e != api.ErrMissing || g != e || h != e || !zero(from, dirty, pure) {
					t.Error(n, from, dirty, pure, e, g, h)
				}
			case many == 0:
				if e != api.ErrClash || g != api.ErrNone || h != g || !zero(from, dirty, pure) {
					t.Error(n, from, dirty, pure, e, g, h)
				}
			case e != api.OK:
				t.Error(n, e)
			}
		}
	}
}

// P7.3: states of many shores, origins, and truths that show them.
func TestStatesMany(t *testing.T) {
	var met, beds [3]int
	var fewer int
	forMany(t, 3000, func(_ *rand.Rand, s shut.Shore) {
		o := slow{s}
		fitting := o.fitting()
		want := api.OK
		if len(fitting) == 0 {
			want = api.ErrClash
		}
		var all []shut.State
		var sold []int
		for k := range s.Sacks {
			state := o.sack(fitting, k)
			all = append(all, state)
			if state == shut.Clean {
				sold = append(sold, k)
			}
			met[state]++
			for _, foul := range []bool{false, true} {
				showsSack(t, s, k, foul, slices.ContainsFunc(fitting, func(x shut.Truth) bool { return o.isFoul(x, k) == foul }))
			}
			from := slices.DeleteFunc(o.dug(k), func(x shut.Origin) bool {
				return !slices.ContainsFunc(fitting, func(y shut.Truth) bool { return y.From[k] == x })
			})
			if got, e := shut.From(s, k); !slices.Equal(got, from) || e != want {
				t.Error(s, k, got, from, e)
			}
			if 0 < len(from) && len(from) < len(o.dug(k)) {
				fewer++
			}
		}
		if want != api.OK {
			all, sold = nil, nil
		}
		if got, e := shut.States(s); !slices.Equal(got, all) || e != want {
			t.Error(s, got, all, e)
		}
		if got, e := shut.Sold(s); !slices.Equal(got, sold) || e != want {
			t.Error(s, got, sold, e)
		}
		for bed := range s.Beds {
			var clean []int
			for tide := range s.Tides {
				state := shut.Open
				if want == api.OK {
					state = o.bed(fitting, at(bed, tide))
					beds[state]++
				}
				if state == shut.Clean {
					clean = append(clean, tide)
				}
				if got, e := shut.Bed(s, bed, tide); got != state || e != want {
					t.Error(s, bed, tide, got, state, e)
				}
			}
			if got, e := shut.Tides(s, bed); !slices.Equal(got, clean) || e != want {
				t.Error(s, bed, got, clean, e)
			}
		}
	})
	if slices.Min(met[:]) < 300 || slices.Min(beds[:]) < 300 || fewer < 200 {
		t.Error("too few shores of a kind to show anything", met, beds, fewer)
	}
}
