package fog_test

import (
	"math"
	"math/rand"
	"slices"
	"testing"

	"laurel/api"
	"laurel/fog"
)

// seen is the fog of the examples with two carts that report, which faults spoil.
func seen() fog.Fog { return followed(row(yes(0), no(1)), cart(list(0, 3), no(1))) }

// fault spoils that fog, so that it has an error.
type fault struct {
	name  string
	e     api.Errno
	spoil func(f *fog.Fog)
}

// groups returns faults by their errors, in the order in which Check returns these.
func groups() [][]fault {
	return [][]fault{manyFaults(), limitFaults(), missingFaults(), wrongFaults(), againFaults(), noneFaults(), orderFaults()}
}

func faults() []fault { return slices.Concat(groups()...) }

func manyFaults() []fault {
	return []fault{
		{"no places", api.ErrMany, func(f *fog.Fog) { f.Sands.Places = 0 }},
		{"-4 places", api.ErrMany, func(f *fog.Fog) { f.Sands.Places = -4 }},
		{"9 places", api.ErrMany, func(f *fog.Fog) { f.Sands.Places = 9 }},
		{"most places", api.ErrMany, func(f *fog.Fog) { f.Sands.Places = math.MaxInt }},
		{"least places", api.ErrMany, func(f *fog.Fog) { f.Sands.Places = math.MinInt }},
		{"-1 minutes", api.ErrMany, func(f *fog.Fog) { f.Sands.Minutes = -1 }},
		{"9 minutes", api.ErrMany, func(f *fog.Fog) { f.Sands.Minutes = 9 }},
		{"most minutes", api.ErrMany, func(f *fog.Fog) { f.Sands.Minutes = math.MaxInt }},
		{"least minutes", api.ErrMany, func(f *fog.Fog) { f.Sands.Minutes = math.MinInt }},
		{"15 tracks", api.ErrMany, func(f *fog.Fog) { f.Sands.Tracks = slices.Repeat(pairs([2]int{0, 1}), 15) }},
		{"9 blasts", api.ErrMany, func(f *fog.Fog) { f.Blasts = slices.Repeat(f.Blasts[:1], 9) }},
		{"nil carts", api.ErrMany, func(f *fog.Fog) { f.Carts = nil }},
		{"no carts", api.ErrMany, func(f *fog.Fog) { f.Carts = []fog.Cart{} }},
		{"4 carts", api.ErrMany, func(f *fog.Fog) { f.Carts = slices.Repeat(f.Carts, 2) }},
		{"9 reports", api.ErrMany, func(f *fog.Fog) { f.Carts[0].Reports = slices.Repeat([]fog.Report{yes(0)}, 9) }},
		{"9 reports later", api.ErrMany, func(f *fog.Fog) { f.Carts[1].Reports = make([]fog.Report, 9) }},
	}
}

func limitFaults() []fault {
	return []fault{
		{"loud -1", api.ErrLimit, func(f *fog.Fog) { f.Blasts[0].Loud = -1 }},
		{"loud 8", api.ErrLimit, func(f *fog.Fog) { f.Blasts[1].Loud = 8 }},
		{"most loud", api.ErrLimit, func(f *fog.Fog) { f.Blasts[0].Loud = math.MaxInt }},
		{"least loud", api.ErrLimit, func(f *fog.Fog) { f.Blasts[1].Loud = math.MinInt }},
		{"minute -1", api.ErrLimit, func(f *fog.Fog) { f.Blasts[0].Minute = -1 }},
		{"minute 3", api.ErrLimit, func(f *fog.Fog) { f.Blasts[1].Minute = 3 }},
		{"minute behind the last", api.ErrLimit, func(f *fog.Fog) { f.Sands.Minutes = 1 }},
		{"most minute", api.ErrLimit, func(f *fog.Fog) { f.Blasts[0].Minute = math.MaxInt }},
		{"least minute", api.ErrLimit, func(f *fog.Fog) { f.Blasts[1].Minute = math.MinInt }},
	}
}

func missingFaults() []fault {
	return []fault{
		{"track from 4", api.ErrMissing, func(f *fog.Fog) { f.Sands.Tracks[0] = [2]int{4, 1} }},
		{"track to 4", api.ErrMissing, func(f *fog.Fog) { f.Sands.Tracks[2] = [2]int{2, 4} }},
		{"track from -1", api.ErrMissing, func(f *fog.Fog) { f.Sands.Tracks[0] = [2]int{-1, 1} }},
		{"track to -1", api.ErrMissing, func(f *fog.Fog) { f.Sands.Tracks[0] = [2]int{1, -1} }},
		{"track at 4", api.ErrMissing, func(f *fog.Fog) { f.Sands.Tracks[1] = [2]int{4, 4} }},
		{"far track", api.ErrMissing, func(f *fog.Fog) { f.Sands.Tracks[0] = [2]int{math.MinInt, math.MaxInt} }},
		{"blast at 4", api.ErrMissing, func(f *fog.Fog) { f.Blasts[0].Place = 4 }},
		{"blast at -1", api.ErrMissing, func(f *fog.Fog) { f.Blasts[1].Place = -1 }},
		{"far blast", api.ErrMissing, func(f *fog.Fog) { f.Blasts[1].Place = math.MaxInt }},
		{"start at 4", api.ErrMissing, func(f *fog.Fog) { f.Carts[0].Start = list(1, 4) }},
		{"start at -1", api.ErrMissing, func(f *fog.Fog) { f.Carts[1].Start = list(-1, 1) }},
		{"start at 4, then back", api.ErrMissing, func(f *fog.Fog) { f.Carts[1].Start = list(4, 1) }},
		{"far start", api.ErrMissing, func(f *fog.Fog) { f.Carts[0].Start = list(math.MinInt) }},
		{"more starts than places", api.ErrMissing, func(f *fog.Fog) { f.Carts[0].Start = list(0, 1, 2, 3, 4) }},
		{"report of 2", api.ErrMissing, func(f *fog.Fog) { f.Carts[0].Reports = []fog.Report{yes(0), no(2)} }},
		{"reports of 2", api.ErrMissing, func(f *fog.Fog) { f.Carts[1].Reports = []fog.Report{no(2), no(2)} }},
		{"report of -1", api.ErrMissing, func(f *fog.Fog) { f.Carts[1].Reports = []fog.Report{yes(-1)} }},
		{"far report", api.ErrMissing, func(f *fog.Fog) { f.Carts[1].Reports = []fog.Report{yes(math.MinInt)} }},
	}
}

func wrongFaults() []fault {
	return []fault{
		{"track at 1", api.ErrWrong, func(f *fog.Fog) { f.Sands.Tracks[0] = [2]int{1, 1} }},
		{"tracks at 0", api.ErrWrong, func(f *fog.Fog) { f.Sands.Tracks[0], f.Sands.Tracks[1] = [2]int{0, 0}, [2]int{0, 0} }},
		{"last track at 3", api.ErrWrong, func(f *fog.Fog) { f.Sands.Tracks[2] = [2]int{3, 3} }},
	}
}

func againFaults() []fault {
	return []fault{
		{"track again", api.ErrAgain, func(f *fog.Fog) { f.Sands.Tracks = append(f.Sands.Tracks, [2]int{0, 1}) }},
		{"track back", api.ErrAgain, func(f *fog.Fog) { f.Sands.Tracks = append(f.Sands.Tracks, [2]int{1, 0}) }},
		{"last track again", api.ErrAgain, func(f *fog.Fog) { f.Sands.Tracks = append(f.Sands.Tracks, [2]int{3, 2}) }},
		{"same report again", api.ErrAgain, func(f *fog.Fog) { f.Carts[0].Reports = []fog.Report{yes(0), no(1), yes(0)} }},
		{"other report again", api.ErrAgain, func(f *fog.Fog) { f.Carts[1].Reports = []fog.Report{no(1), yes(1)} }},
	}
}

func noneFaults() []fault {
	return []fault{
		{"nil start", api.ErrNone, func(f *fog.Fog) { f.Carts[0].Start = nil }},
		{"no start", api.ErrNone, func(f *fog.Fog) { f.Carts[1].Start = list() }},
	}
}

func orderFaults() []fault {
	return []fault{
		{"start back", api.ErrOrder, func(f *fog.Fog) { f.Carts[0].Start = list(2, 1) }},
		{"start twice", api.ErrOrder, func(f *fog.Fog) { f.Carts[0].Start = list(1, 1) }},
		{"third start back", api.ErrOrder, func(f *fog.Fog) { f.Carts[0].Start = list(0, 3, 2) }},
		{"third start twice", api.ErrOrder, func(f *fog.Fog) { f.Carts[0].Start = list(0, 3, 3) }},
		{"many starts", api.ErrOrder, func(f *fog.Fog) { f.Carts[0].Start = slices.Repeat(list(0, 1, 2, 3), 1000) }},
	}
}

// P5.1: each error of Check, one number beyond each limit.
func TestCheckFaults(t *testing.T) {
	for _, x := range faults() {
		f := seen()
		x.spoil(&f)
		if e := fog.Check(f); e != x.e {
			t.Error(x.name, e, x.e)
		}
	}
}

// P5.1, R1: of two errors the one is returned that is named first, wherever they are.
func TestCheckOrder(t *testing.T) {
	all := groups()
	for i, group := range all {
		for _, x := range group {
			for _, later := range slices.Concat(all[i+1:]...) {
				f := seen()
				later.spoil(&f)
				x.spoil(&f)
				if e := fog.Check(f); e != x.e {
					t.Error(x.name, later.name, e)
				}
			}
		}
	}
}

// P5.1, R1: what is asked of carts is asked of all of them before the next error is asked for.
func TestCheckAllCarts(t *testing.T) {
	for i, x := range []struct {
		first, second fog.Cart
		e             api.Errno
	}{
		{cart(list(2, 1)), cart(nil), api.ErrNone},
		{cart(list(2, 1)), cart(list(0), yes(0), yes(0)), api.ErrAgain},
		{cart(nil), cart(list(0), yes(0), no(0)), api.ErrAgain},
		{cart(list(0), yes(0), yes(0)), cart(list(0), yes(2)), api.ErrMissing},
		{cart(nil), cart(list(4)), api.ErrMissing},
		{cart(list(2, 1)), cart(list(4)), api.ErrMissing},
		{cart(list(4)), cart(list(0), make([]fog.Report, 9)...), api.ErrMany},
	} {
		f := row()
		f.Carts = []fog.Cart{x.first, x.second}
		if e := fog.Check(f); e != x.e {
			t.Error(i, e, x.e)
		}
	}
}

// P5.1, R3: numbers at their limits are allowed, and so are lists without elements.
func TestCheckAllowed(t *testing.T) {
	for i, change := range []func(f *fog.Fog){
		func(f *fog.Fog) {},
		func(f *fog.Fog) { *f = widest() },
		func(f *fog.Fog) { *f = cut() },
		func(f *fog.Fog) { *f = fog.Fog{Sands: fog.Sands{Places: 1}, Carts: []fog.Cart{cart(list(0))}} },
		func(f *fog.Fog) { f.Sands.Places = 8; f.Sands.Tracks[0] = [2]int{7, 1} },
		func(f *fog.Fog) { f.Sands.Minutes = 8; f.Blasts[0].Minute = 8 },
		func(f *fog.Fog) { f.Sands.Minutes = 0; f.Blasts[0].Minute, f.Blasts[1].Minute = 0, 0 },
		func(f *fog.Fog) { f.Sands.Tracks = nil },
		func(f *fog.Fog) { f.Sands.Tracks = pairs() },
		func(f *fog.Fog) { f.Blasts[0] = blast(0, 3, 7); f.Blasts[1] = blast(2, 0, 0) },
		func(f *fog.Fog) { f.Blasts = slices.Repeat(f.Blasts, 4) },
		func(f *fog.Fog) { f.Blasts = nil; f.Carts[0].Reports, f.Carts[1].Reports = nil, []fog.Report{} },
		func(f *fog.Fog) { f.Carts = f.Carts[:1] },
		func(f *fog.Fog) { f.Carts = append(f.Carts, f.Carts[0]) },
		func(f *fog.Fog) { f.Carts[0].Start = list(0, 1, 2, 3) },
		func(f *fog.Fog) { f.Carts[0].Reports = []fog.Report{no(1), no(0)} },
		func(f *fog.Fog) { *f = none() },
	} {
		f := seen()
		change(&f)
		if e := fog.Check(f); e != api.OK {
			t.Error(i, e)
		}
	}
}

// P5.1: distances of places, over tracks in both directions, by the shortest of several ways.
func TestFar(t *testing.T) {
	ring := joined(row(), [2]int{0, 1}, [2]int{1, 2}, [2]int{2, 3}, [2]int{3, 0})
	long := joined(row(), [2]int{6, 7}, [2]int{4, 3}, [2]int{0, 1}, [2]int{5, 4}, [2]int{1, 2}, [2]int{5, 6}, [2]int{3, 2})
	long.Sands.Places = 8
	for i, x := range []struct {
		f           fog.Fog
		from, to, n int
		e           api.Errno
	}{
		{row(), 0, 0, 0, api.OK}, {row(), 0, 1, 1, api.OK}, {row(), 1, 2, 1, api.OK}, {row(), 0, 3, 3, api.OK}, {row(), 3, 0, 3, api.OK},
		{ring, 0, 3, 1, api.OK}, {ring, 3, 1, 2, api.OK}, {ring, 0, 2, 2, api.OK},
		{long, 0, 7, 7, api.OK}, {long, 7, 0, 7, api.OK}, {long, 7, 7, 0, api.OK}, {long, 2, 6, 4, api.OK},
		{widest(), 0, 6, 3, api.OK}, {widest(), 5, 7, 2, api.OK}, {widest(), 0, 3, 1, api.OK},
		{cut(), 0, 2, 2, api.OK}, {cut(), 3, 4, 1, api.OK}, {cut(), 5, 5, 0, api.OK},
		{cut(), 0, 3, 0, api.ErrNone}, {cut(), 4, 2, 0, api.ErrNone}, {cut(), 5, 0, 0, api.ErrNone}, {cut(), 3, 5, 0, api.ErrNone},
		{joined(row()), 2, 3, 0, api.ErrNone}, {joined(row()), 2, 2, 0, api.OK},
		{none(), 3, 1, 2, api.OK},
	} {
		if n, e := fog.Far(x.f, x.from, x.to); n != x.n || e != x.e {
			t.Error(i, n, e)
		}
	}
	for _, place := range outside(0, 5) {
		for _, at := range list(0, 5, place) {
			a, e := fog.Far(cut(), place, at)
			b, g := fog.Far(cut(), at, place)
			if a != 0 || b != 0 || e != api.ErrMissing || g != api.ErrMissing {
				t.Error(place, at, a, b, e, g)
			}
		}
	}
}

// P5.1: the places at which blasts are heard.
func TestHears(t *testing.T) {
	loud := blown(row(), blast(0, 1, 0), blast(0, 1, 1), blast(2, 1, 2), blast(1, 3, 3), blast(0, 3, 2), blast(0, 2, 7))
	for b, want := range [][]int{{0, 1}, {3}, {1}, {0, 1, 2}, {0, 1, 2, 3}, {0, 1, 2, 3}, {1, 2, 3}, {0, 1, 2, 3}} { // the first two: example 1
		if got, e := fog.Hears(loud, b); !slices.Equal(got, want) || e != api.OK {
			t.Error(b, got, e)
		}
	}
	for b, want := range [][]int{{0, 1, 2}, {4}, {5}, {1}} { // as loud as can be, and not heard where no way leads
		if got, e := fog.Hears(cut(), b); !slices.Equal(got, want) || e != api.OK {
			t.Error(b, got, e)
		}
	}
	for _, b := range outside(0, 3) {
		if got, e := fog.Hears(cut(), b); !zero(got) || e != api.ErrMissing {
			t.Error(b, got, e)
		}
	}
	quiet := row()
	quiet.Blasts = nil
	if got, e := fog.Hears(quiet, 0); !zero(got) || e != api.ErrMissing {
		t.Error(got, e)
	}
}

// P5.1: distances, and where blasts are heard, in many fogs.
func TestFarMany(t *testing.T) {
	forMany(t, 300, func(_ *rand.Rand, f fog.Fog) {
		o := slow{f}
		for _, a := range o.all() {
			for _, b := range o.all() {
				want, is := o.distance(a, b)
				if n, e := fog.Far(f, a, b); n != want || (e == api.OK) != is || !is && e != api.ErrNone {
					t.Error(f, a, b, n, e, want)
				}
			}
		}
		for b := range f.Blasts {
			want := o.placesThat(func(place int) bool { return o.hears(b, place) })
			if got, e := fog.Hears(f, b); !slices.Equal(got, want) || e != api.OK {
				t.Error(f, b, got, want, e)
			}
		}
	})
}

// P5.1, R1, R2: all functions return the errors of Check first, and zero beside them.
func TestCheckFirst(t *testing.T) {
	for _, x := range faults() {
		f := seen()
		x.spoil(&f)
		for _, n := range append(farNumbers(), 0, 1, -1, 99) {
			for _, c := range calls(n) {
				if isZero, e := c.ask(f); e != x.e || !isZero {
					t.Error(x.name, c.name, n, isZero, e)
				}
			}
		}
	}
}
