package ford_test

import (
	"math"
	"math/rand"
	"testing"

	"laurel/api"
	"laurel/ford"
)

// shut is the sands of the examples with a home that is never dry in truth 1.
func shut() ford.Sands {
	s := three()
	s.Truths[1].Dry[0] = nil
	return s
}

// late is a home that is dry from minute 3 on, and again from minute 8 on, with a bed that is always dry.
func late() ford.Sands {
	s := near()
	s.Last = 12
	s.Truths[0] = truth(spans(0, 12), spans(3, 6, 8, 12))
	return s
}

// P2.6: the worth of starts, minute by minute, and the best of them: of several the first one.
func TestStart(t *testing.T) {
	lost := ford.Lost
	for i, x := range []struct {
		s            ford.Sands
		want         []int
		minute, most int
	}{
		{three(), list(0, 0, 0, 0, 0, 0, 0, 0, 0, 0, 0, 0, 0), 0, 0}, // examples 2 and 3
		{seen(0), list(0, 0, 0, 0, 0, 0, 0, 0, 0, 0, 0, 0, 0), 0, 0},
		{first(), list(3, 2, 1, 0, 0, 0, 0, 0, 0, 0, 0, 0, 0), 0, 3},
		{shut(), list(lost, lost, lost, lost, lost, lost, lost, lost, lost, lost, lost, lost, lost), 0, lost},
		{near(), list(2, 1, 0, 0, 0), 0, 2},
		{late(), list(lost, lost, lost, 7, 6, 5, 4, lost, 2, 1, 0, 0, 0), 3, 7},
		{fork(), list(0, 0, 0, 0, 0, 0, 0, 0, 0, 0), 0, 0},
		{telling(fork(), 0), list(4, 3, 2, 1, 0, 0, 0, 0, 0, 0), 0, 4},
	} {
		for minute, want := range x.want {
			if n, e := ford.Start(x.s, minute); n != want || e != api.OK {
				t.Error(i, minute, n, want, e)
			}
		}
		minute, most, e := ford.Best(x.s)
		if x.most == lost && (e != api.ErrNone || !zero(minute, most)) || x.most != lost && (minute != x.minute || most != x.most || e != api.OK) {
			t.Error(i, minute, most, e)
		}
	}
}

// P2.6: of several minutes that are best the first one is told, and not a sooner one that is worth less.
func TestBestOfSeveral(t *testing.T) {
	s := late()
	s.Truths[0] = truth(spans(6, 12), spans(0, 0, 3, 12))
	for minute, want := range list(0, ford.Lost, ford.Lost, 5, 5, 5, 4, 3, 2, 1, 0, 0, 0) {
		if n, e := ford.Start(s, minute); n != want || e != api.OK {
			t.Error(minute, n, want, e)
		}
	}
	if minute, most, e := ford.Best(s); minute != 3 || most != 5 || e != api.OK {
		t.Error(minute, most, e)
	}
	s.Truths[0].Dry[0] = nil
	s.Truths[0].Dry[1] = spans(2, 3)
	if minute, most, e := ford.Best(s); minute != 2 || most != 0 || e != api.OK {
		t.Error(minute, most, e)
	}
}

// P2.6: the last minute to turn, for each set of truths.
func TestTurn(t *testing.T) {
	asleep := three()
	asleep.Truths[1].Dry[2] = nil
	for i, x := range []struct {
		s       ford.Sands
		left, n int
		e       api.Errno
	}{
		{three(), 1, 7, api.OK}, // example 2
		{three(), 2, 4, api.OK},
		{three(), 3, 4, api.OK},
		{first(), 1, 7, api.OK},
		{near(), 1, 3, api.OK},
		{far(60), 1, 40, api.OK},
		{far(20), 1, 0, api.OK},
		{far(19), 1, 0, api.ErrNone},
		{long(), 1, 59, api.OK},
		{shut(), 1, 7, api.OK},
		{shut(), 2, 0, api.ErrNone},
		{shut(), 3, 0, api.ErrNone},
		{asleep, 1, 7, api.OK},
		{asleep, 2, 0, api.ErrNone},
		{asleep, 3, 0, api.ErrNone},
		{fork(), 1, 6, api.OK},
		{fork(), 2, 6, api.OK},
		{fork(), 3, 1, api.OK},
		{telling(fork(), 3), 3, 5, api.OK}, // it waits for a minute to see it
		{three(), 0, 0, api.ErrLimit},
		{three(), -1, 0, api.ErrLimit},
		{three(), 4, 0, api.ErrLimit},
		{first(), 2, 0, api.ErrLimit},
		{widest(), 15, 43, api.OK},
		{widest(), 16, 0, api.ErrLimit},
		{three(), math.MaxInt, 0, api.ErrLimit},
		{three(), math.MinInt, 0, api.ErrLimit},
	} {
		if n, e := ford.Turn(x.s, x.left); n != x.n || e != x.e {
			t.Error(i, n, e)
		}
	}
}

// P2.8: what is told at home, and the place at which it helps most to see everything, of several the first one.
func TestToldAndSpy(t *testing.T) {
	other := fork()
	other.Home, other.Bed = 3, 0
	for i, x := range []struct {
		s            ford.Sands
		minute, told int
		place, spied int
	}{
		{three(), 0, 0, 1, 0}, // example 3
		{first(), 0, 3, 1, 3},
		{first(), 2, 1, 1, 1},
		{first(), 12, 0, 1, 0},
		{shut(), 0, ford.Lost, 1, ford.Lost},
		{near(), 0, 2, 0, 2},
		{near(), 4, 0, 0, 0},
		{late(), 0, ford.Lost, 0, ford.Lost},
		{fork(), 0, 4, 1, 4},
		{fork(), 1, 3, 1, 3},
		{other, 0, 3, 0, 3},
		{telling(fork(), 2), 0, 4, 1, 4},
	} {
		told, e := ford.Told(x.s, x.minute)
		place, spied, f := ford.Spy(x.s, x.minute)
		if told != x.told || place != x.place || spied != x.spied || e != api.OK || f != api.OK {
			t.Error(i, told, place, spied, e, f)
		}
	}
}

// P2.6, P2.8: the error of a minute, one beyond and far off; both ends are allowed.
func TestMinuteErrors(t *testing.T) {
	for _, minute := range list(-1, 13, 61, math.MaxInt, math.MinInt) {
		start, e := ford.Start(three(), minute)
		told, f := ford.Told(three(), minute)
		place, spied, g := ford.Spy(three(), minute)
		set, worked, h := ford.Fixed(three(), minute, nil)
		if !zero(start, told, place, spied, set, worked) || e != api.ErrLimit || f != api.ErrLimit || g != api.ErrLimit || h != api.ErrLimit {
			t.Error(minute, start, told, place, spied, set, worked, e, f, g, h)
		}
	}
	for _, minute := range list(0, 60) {
		_, e := ford.Start(widest(), minute)
		_, f := ford.Told(widest(), minute)
		_, _, g := ford.Spy(widest(), minute)
		_, _, h := ford.Fixed(widest(), minute, nil)
		if e != api.OK || f != api.OK || g != api.OK || h != api.OK {
			t.Error(minute, e, f, g, h)
		}
	}
}

// P2.6, P2.8: starts of many sands, minute by minute.
func TestStartsMany(t *testing.T) {
	forMany(t, 200, func(_ *rand.Rand, s ford.Sands) {
		p := play(s)
		var spies []player
		for place := range s.Places {
			spies = append(spies, play(telling(s, place)))
		}
		first, most := 0, ford.Lost
		for minute := range s.Last + 1 {
			want := p.start(minute)
			if want > most {
				first, most = minute, want
			}
			n, e := ford.Start(s, minute)
			m, f := ford.Told(s, minute)
			if n != want || m != spies[s.Home].start(minute) || e != api.OK || f != api.OK {
				t.Error(s, minute, n, want, m, spies[s.Home].start(minute), e, f)
			}
			checkSpy(t, s, spies, minute)
		}
		minute, n, e := ford.Best(s)
		if most == ford.Lost && (e != api.ErrNone || !zero(minute, n)) || most != ford.Lost && (minute != first || n != most || e != api.OK) {
			t.Error(s, minute, n, e, first, most)
		}
		checkTurn(t, p)
	})
}

// checkSpy asks for the best place; spies play with sands in which everything is seen at their places.
func checkSpy(t *testing.T, s ford.Sands, spies []player, minute int) {
	t.Helper()
	best, most := -1, 0
	for place, p := range spies {
		if n := p.start(minute); place != s.Home && (best < 0 || n > most) {
			best, most = place, n
		}
	}
	if place, n, e := ford.Spy(s, minute); place != best || n != most || e != api.OK {
		t.Error(s, minute, place, n, e, best, most)
	}
}

func checkTurn(t *testing.T, p player) {
	t.Helper()
	for left := 1; left <= p.all(); left++ {
		last, want := 0, api.ErrNone
		for minute := range p.Last + 1 {
			if p.worth(at(p.Bed, minute, left)) != ford.Lost {
				last, want = minute, api.OK
			}
		}
		if n, e := ford.Turn(p.Sands, left); n != last || e != want {
			t.Error(p, left, n, e, last, want)
		}
	}
}
