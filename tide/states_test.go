package tide_test

import (
	"math"
	"math/rand"
	"slices"
	"testing"

	"laurel/api"
	"laurel/tide"
)

// P1.4: the states of example 3.
func TestStates(t *testing.T) {
	for _, x := range []struct {
		minute int
		all    []tide.State
	}{
		{0, []tide.State{tide.Dry, tide.Dry}},
		{90, []tide.State{tide.Dry, tide.Dry}},
		{97, []tide.State{tide.Dry, tide.Dry}},
		{98, []tide.State{tide.Perhaps, tide.Dry}},
		{120, []tide.State{tide.Perhaps, tide.Dry}},
		{121, []tide.State{tide.Perhaps, tide.Dry}},
		{122, []tide.State{tide.Perhaps, tide.Perhaps}},
		{133, []tide.State{tide.Perhaps, tide.Perhaps}},
		{134, []tide.State{tide.Wet, tide.Perhaps}},
		{150, []tide.State{tide.Wet, tide.Perhaps}},
		{157, []tide.State{tide.Wet, tide.Perhaps}},
		{158, []tide.State{tide.Wet, tide.Wet}},
		{360, []tide.State{tide.Wet, tide.Wet}},
		{700, []tide.State{tide.Dry, tide.Dry}},
	} {
		all, e := tide.All(two(), x.minute)
		if !slices.Equal(all, x.all) || e != api.OK {
			t.Error(x, all, e)
		}
		for place, want := range x.all {
			if state, e := tide.At(two(), x.minute, place); state != want || e != api.OK {
				t.Error(x, place, state, e)
			}
		}
	}
}

// P1.4: a place without a way is Dry, however high the water and low its floor.
func TestStatesWithoutWay(t *testing.T) {
	s := apart()
	s.Table[1].Height, s.Floors, s.Wind = 999, list(0, 0), span(50, 50)
	all, e := tide.All(s, 360)
	if !slices.Equal(all, []tide.State{tide.Dry, tide.Dry}) || e != api.OK {
		t.Error(all, e)
	}
	if spans, e := tide.Spans(s, 1, tide.Dry); !slices.Equal(spans, []api.Span{span(0, 700)}) || e != api.OK {
		t.Error(spans, e)
	}
	for _, state := range []tide.State{tide.Perhaps, tide.Wet} {
		if spans, e := tide.Spans(s, 1, state); len(spans) != 0 || e != api.OK {
			t.Error(state, spans, e)
		}
	}
}

// P1.4: the highest water comes to the highest place, if the wind lifts it; the lowest one not to the lowest.
func TestStatesLimits(t *testing.T) {
	s := tide.Sands{
		Table:  []tide.Water{{Minute: 0, Height: 0}, {Minute: 1440, Height: 999}},
		Floors: list(0, 999),
		Sills:  []tide.Sill{{A: tide.Sea, B: 0, Height: 0}, {A: tide.Sea, B: 1, Height: 999}},
	}
	for _, x := range []struct {
		wind          api.Span
		minute, place int
		state         tide.State
	}{
		{span(0, 0), 0, 0, tide.Dry}, {span(0, 1), 0, 0, tide.Perhaps}, {span(1, 1), 0, 0, tide.Wet}, {span(-50, 50), 0, 0, tide.Perhaps}, {span(-50, 0), 0, 0, tide.Dry},
		{span(0, 0), 1440, 1, tide.Dry}, {span(0, 1), 1440, 1, tide.Perhaps}, {span(1, 1), 1440, 1, tide.Wet}, {span(-50, 50), 1440, 1, tide.Perhaps}, {span(1, 50), 1440, 1, tide.Wet},
	} {
		s.Wind = x.wind
		if state, e := tide.At(s, x.minute, x.place); state != x.state || e != api.OK {
			t.Error(x, state, e)
		}
	}
}

// P1.4: the error of the minute, then that of the place.
func TestAtErrors(t *testing.T) {
	for _, x := range []struct {
		minute, place int
		e             api.Errno
	}{
		{-1, 0, api.ErrLimit}, {701, 0, api.ErrLimit}, {701, 2, api.ErrLimit}, {math.MaxInt, math.MaxInt, api.ErrLimit}, {math.MinInt, 0, api.ErrLimit},
		{0, 2, api.ErrMissing}, {360, 2, api.ErrMissing}, {360, tide.Sea, api.ErrMissing}, {700, math.MaxInt, api.ErrMissing}, {700, math.MinInt, api.ErrMissing},
	} {
		if state, e := tide.At(two(), x.minute, x.place); state != 0 || e != x.e {
			t.Error(x, state, e)
		}
	}
}

// P1.4: spans of a day with two tides, and the order of errors.
func TestSpans(t *testing.T) {
	for i, x := range []struct {
		place int
		state tide.State
		want  []api.Span
		e     api.Errno
	}{
		// Place 0 is Dry up to a height of 125 and Wet from 134 on, place 1 up to 145 and from 154 on.
		{0, tide.Dry, []api.Span{span(10, 15), span(43, 58), span(88, 90)}, api.OK},
		{0, tide.Perhaps, []api.Span{span(16, 17), span(41, 42), span(59, 61), span(84, 87)}, api.OK},
		{0, tide.Wet, []api.Span{span(18, 40), span(62, 83)}, api.OK},
		{1, tide.Dry, []api.Span{span(10, 21), span(37, 65), span(78, 90)}, api.OK},
		{1, tide.Perhaps, []api.Span{span(22, 24), span(35, 36), span(66, 67), span(74, 77)}, api.OK},
		{1, tide.Wet, []api.Span{span(25, 34), span(68, 73)}, api.OK},
		{1, 3, nil, api.ErrWrong},
		{1, -1, nil, api.ErrWrong},
		{0, math.MaxInt, nil, api.ErrWrong},
		{0, math.MinInt, nil, api.ErrWrong},
		{2, 3, nil, api.ErrMissing},
		{2, tide.Dry, nil, api.ErrMissing},
		{tide.Sea, tide.Dry, nil, api.ErrMissing},
		{math.MaxInt, tide.Wet, nil, api.ErrMissing},
	} {
		if spans, e := tide.Spans(hills(), x.place, x.state); !slices.Equal(spans, x.want) || e != x.e {
			t.Error(i, spans, e)
		}
	}
}

// P1.4: At, All and Spans of many sands.
func TestStatesMany(t *testing.T) {
	forMany(t, 200, func(_ *rand.Rand, o slow) {
		states := o.states()
		for minute, want := range states {
			all, e := tide.All(o.Sands, minute)
			if !slices.Equal(all, want) || e != api.OK {
				t.Error(o, minute, all, want, e)
			}
			for place := range o.Floors {
				if state, e := tide.At(o.Sands, minute, place); state != want[place] || e != api.OK {
					t.Error(o, minute, place, state, want, e)
				}
			}
		}
		for place := range o.Floors {
			for _, state := range []tide.State{tide.Dry, tide.Perhaps, tide.Wet} {
				want := o.spans(func(minute int) bool { return states[minute][place] == state })
				if spans, e := tide.Spans(o.Sands, place, state); !slices.Equal(spans, want) || e != api.OK {
					t.Error(o, place, state, spans, want, e)
				}
			}
		}
	})
}

// P1.5: the last minute to stay, of the example and of a day with two tides, and the order of errors.
func TestTurn(t *testing.T) {
	for i, x := range []struct {
		s                   tide.Sands
		place, minute, turn int
		e                   api.Errno
	}{
		{two(), 0, 0, 97, api.OK},
		{two(), 0, 97, 97, api.OK},
		{two(), 0, 98, 0, api.ErrNone},
		{two(), 0, 360, 0, api.ErrNone},
		{two(), 0, 700, 700, api.OK},
		{apart(), 0, 5, 700, api.OK},
		{hills(), 0, 10, 15, api.OK},
		{hills(), 0, 43, 58, api.OK},
		{hills(), 0, 50, 58, api.OK},
		{hills(), 0, 42, 0, api.ErrNone},
		{hills(), 0, 59, 0, api.ErrNone},
		{hills(), 0, 62, 0, api.ErrNone},
		{hills(), 0, 88, 90, api.OK},
		{hills(), 0, 90, 90, api.OK},
		{hills(), 0, 9, 0, api.ErrLimit},
		{hills(), 0, 91, 0, api.ErrLimit},
		{hills(), 1, math.MaxInt, 0, api.ErrLimit},
		{hills(), 1, math.MinInt, 0, api.ErrLimit},
		{hills(), 2, 91, 0, api.ErrMissing},
		{hills(), 2, 10, 0, api.ErrMissing},
		{hills(), tide.Sea, 10, 0, api.ErrMissing},
	} {
		if turn, e := tide.Turn(x.s, x.place, x.minute); turn != x.turn || e != x.e {
			t.Error(i, turn, e)
		}
	}
}

// P1.5: the first floods of the example and of a day with two tides, and the order of errors.
func TestFlood(t *testing.T) {
	same := hills()
	same.Floors[1], same.Sills[1].Height = 130, 0
	for i, x := range []struct {
		s             tide.Sands
		minute, first int
		places        []int
		e             api.Errno
	}{
		{two(), 0, 98, list(0), api.OK},
		{two(), 97, 98, list(0), api.OK},
		{two(), 98, 122, list(1), api.OK},
		{two(), 121, 122, list(1), api.OK},
		{two(), 122, 0, nil, api.ErrNone}, // no place is Dry any more
		{two(), 360, 0, nil, api.ErrNone},
		{two(), 690, 0, nil, api.ErrNone}, // the water falls
		{two(), 700, 0, nil, api.ErrNone}, // the day is over
		{apart(), 0, 0, nil, api.ErrNone},
		{hills(), 10, 16, list(0), api.OK},
		{hills(), 16, 22, list(1), api.OK},
		{hills(), 38, 66, list(1), api.OK}, // place 0 is not Dry at 38: that it floods at 59 does not matter
		{hills(), 43, 59, list(0), api.OK},
		{hills(), 58, 59, list(0), api.OK},
		{hills(), 78, 0, nil, api.ErrNone},
		{same, 10, 16, list(0, 1), api.OK},
		{hills(), 9, 0, nil, api.ErrLimit},
		{hills(), 91, 0, nil, api.ErrLimit},
		{hills(), math.MaxInt, 0, nil, api.ErrLimit},
		{hills(), math.MinInt, 0, nil, api.ErrLimit},
	} {
		if first, places, e := tide.Flood(x.s, x.minute); first != x.first || !slices.Equal(places, x.places) || e != x.e {
			t.Error(i, first, places, e)
		}
	}
}

// P1.5: the longest spans, the first of several, and the error of a place.
func TestLongest(t *testing.T) {
	twin := hills() // Dry from 10 to 20, and from 30 to 40
	twin.Table = []tide.Water{{Minute: 10, Height: 130}, {Minute: 20, Height: 130}, {Minute: 25, Height: 180}, {Minute: 30, Height: 130}, {Minute: 40, Height: 130}}
	twin.Wind = span(0, 0)
	none := twin
	none.Wind = span(0, 50)
	for i, x := range []struct {
		s      tide.Sands
		places []int
		want   api.Span
		e      api.Errno
	}{
		{two(), list(0), span(0, 97), api.OK},
		{hills(), list(0), span(43, 58), api.OK},
		{hills(), list(1), span(37, 65), api.OK},
		{hills(), list(0, 1), span(43, 58), api.OK},
		{hills(), list(1, 0, 1, 1), span(43, 58), api.OK},
		{hills(), nil, span(10, 90), api.OK},
		{hills(), list(), span(10, 90), api.OK},
		{apart(), list(1, 0), span(0, 700), api.OK},
		{twin, list(0), span(10, 20), api.OK},
		{none, list(0), api.Span{}, api.ErrNone},
		{none, list(0, 2), api.Span{}, api.ErrMissing},
		{hills(), list(2), api.Span{}, api.ErrMissing},
		{hills(), list(0, 1, tide.Sea), api.Span{}, api.ErrMissing},
		{hills(), list(math.MaxInt), api.Span{}, api.ErrMissing},
		{hills(), list(0, math.MinInt), api.Span{}, api.ErrMissing},
		{hills(), slices.Repeat(list(0, 1), 500000), span(43, 58), api.OK},
	} {
		if got, e := tide.Longest(x.s, x.places); got != x.want || e != x.e {
			t.Error(i, got, e)
		}
	}
}

// P1.5: Turn, Flood and Longest of many sands.
func TestStayingMany(t *testing.T) {
	forMany(t, 200, func(_ *rand.Rand, o slow) {
		states := o.states()
		for _, minute := range o.day() {
			for place := range o.Floors {
				checkTurn(t, o, states, place, minute)
			}
			checkFlood(t, o, states, minute)
		}
		for bits := range 1 << len(o.Floors) {
			checkLongest(t, o, states, subset(bits))
		}
	})
}

func checkTurn(t *testing.T, o slow, states map[int][]tide.State, place, minute int) {
	t.Helper()
	want, e := 0, api.ErrNone
	for m := minute; states[m] != nil && states[m][place] == tide.Dry; m++ {
		want, e = m, api.OK
	}
	if turn, f := tide.Turn(o.Sands, place, minute); turn != want || f != e {
		t.Error(o, place, minute, turn, want, f, e)
	}
}

func checkFlood(t *testing.T, o slow, states map[int][]tide.State, minute int) {
	t.Helper()
	first, e := 0, api.ErrNone
	var places []int
	for m := minute + 1; states[m] != nil && e == api.ErrNone; m++ {
		for place, state := range states[m] {
			if states[minute][place] == tide.Dry && state != tide.Dry {
				first, e = m, api.OK
				places = append(places, place)
			}
		}
	}
	if got, list, f := tide.Flood(o.Sands, minute); got != first || !slices.Equal(list, places) || f != e {
		t.Error(o, minute, got, list, f, first, places, e)
	}
}

func checkLongest(t *testing.T, o slow, states map[int][]tide.State, places []int) {
	t.Helper()
	spans := o.spans(func(minute int) bool {
		return !slices.ContainsFunc(places, func(p int) bool { return states[minute][p] != tide.Dry })
	})
	want, e := api.Span{}, api.ErrNone
	for _, x := range spans {
		if e == api.ErrNone || x.Hi-x.Lo > want.Hi-want.Lo {
			want, e = x, api.OK
		}
	}
	if got, f := tide.Longest(o.Sands, places); got != want || f != e {
		t.Error(o, places, got, want, f, e)
	}
}
