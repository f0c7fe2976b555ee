package tide_test

import (
	"math"
	"math/rand"
	"slices"
	"testing"

	"laurel/api"
	"laurel/tide"
)

// fault spoils the sands of the examples, so that they have an error.
type fault struct {
	name  string
	e     api.Errno
	spoil func(s *tide.Sands)
}

func waters(n int) []tide.Water {
	var out []tide.Water
	for i := range n {
		out = append(out, tide.Water{Minute: i * 10, Height: 100})
	}
	return out
}

func faults() []fault {
	sills := func(n int) []tide.Sill { return slices.Repeat([]tide.Sill{{A: tide.Sea, B: 0, Height: 5}}, n) }
	return []fault{
		{"no water", api.ErrMany, func(s *tide.Sands) { s.Table = nil }},
		{"one water", api.ErrMany, func(s *tide.Sands) { s.Table = s.Table[:1] }},
		{"13 waters", api.ErrMany, func(s *tide.Sands) { s.Table = waters(13) }},
		{"nil places", api.ErrMany, func(s *tide.Sands) { s.Floors = nil }},
		{"no places", api.ErrMany, func(s *tide.Sands) { s.Floors = []int{} }},
		{"9 places", api.ErrMany, func(s *tide.Sands) { s.Floors = make([]int, 9) }},
		{"17 sills", api.ErrMany, func(s *tide.Sands) { s.Sills = sills(17) }},
		{"first minute", api.ErrLimit, func(s *tide.Sands) { s.Table[0].Minute = -1 }},
		{"last minute", api.ErrLimit, func(s *tide.Sands) { s.Table[2].Minute = 1441 }},
		{"minute between", api.ErrLimit, func(s *tide.Sands) { s.Table[1].Minute = math.MaxInt }},
		{"low water", api.ErrLimit, func(s *tide.Sands) { s.Table[0].Height = -1 }},
		{"high water", api.ErrLimit, func(s *tide.Sands) { s.Table[2].Height = 1000 }},
		{"height between", api.ErrLimit, func(s *tide.Sands) { s.Table[1].Height = math.MinInt }},
		{"wind from", api.ErrLimit, func(s *tide.Sands) { s.Wind.Lo = -51 }},
		{"wind to", api.ErrLimit, func(s *tide.Sands) { s.Wind.Hi = 51 }},
		{"wind from beyond", api.ErrLimit, func(s *tide.Sands) { s.Wind = span(51, 0) }},
		{"wind to below", api.ErrLimit, func(s *tide.Sands) { s.Wind = span(0, -51) }},
		{"low floor", api.ErrLimit, func(s *tide.Sands) { s.Floors[0] = -1 }},
		{"high floor", api.ErrLimit, func(s *tide.Sands) { s.Floors[1] = 1000 }},
		{"low sill", api.ErrLimit, func(s *tide.Sands) { s.Sills[0].Height = -1 }},
		{"high sill", api.ErrLimit, func(s *tide.Sands) { s.Sills[2].Height = 1000 }},
		{"same minute", api.ErrOrder, func(s *tide.Sands) { s.Table[1].Minute = 0 }},
		{"earlier minute", api.ErrOrder, func(s *tide.Sands) { s.Table[2].Minute = 359 }},
		{"wind", api.ErrOrder, func(s *tide.Sands) { s.Wind = span(1, 0) }},
		{"from nowhere", api.ErrMissing, func(s *tide.Sands) { s.Sills[0].A = 2 }},
		{"to nowhere", api.ErrMissing, func(s *tide.Sands) { s.Sills[2].B = 2 }},
		{"from below the sea", api.ErrMissing, func(s *tide.Sands) { s.Sills[1].A = -2 }},
		{"to below the sea", api.ErrMissing, func(s *tide.Sands) { s.Sills[0].B = -2 }},
		{"from far", api.ErrMissing, func(s *tide.Sands) { s.Sills[0].A = math.MaxInt }},
		{"to far", api.ErrMissing, func(s *tide.Sands) { s.Sills[0].B = math.MinInt }},
		{"nowhere with itself", api.ErrMissing, func(s *tide.Sands) { s.Sills[0] = tide.Sill{A: 2, B: 2, Height: 5} }},
		{"place with itself", api.ErrWrong, func(s *tide.Sands) { s.Sills[1] = tide.Sill{A: 1, B: 1, Height: 5} }},
		{"sea with itself", api.ErrWrong, func(s *tide.Sands) { s.Sills[1] = tide.Sill{A: tide.Sea, B: tide.Sea, Height: 5} }},
	}
}

// P1.1: each error of Check, one number beyond each limit.
func TestCheckFaults(t *testing.T) {
	for _, f := range faults() {
		s := two()
		f.spoil(&s)
		if e := tide.Check(s); e != f.e {
			t.Error(f.name, e, f.e)
		}
	}
}

// P1.1, R1: of two errors the one is returned that is named first, wherever they are.
func TestCheckOrder(t *testing.T) {
	rank := map[api.Errno]int{api.ErrMany: 1, api.ErrLimit: 2, api.ErrOrder: 3, api.ErrMissing: 4, api.ErrWrong: 5}
	for _, first := range faults() {
		for _, later := range faults() {
			if rank[first.e] >= rank[later.e] {
				continue
			}
			s := two()
			later.spoil(&s)
			first.spoil(&s)
			if e := tide.Check(s); e != first.e {
				t.Error(first.name, later.name, e)
			}
		}
	}
}

// P1.1: numbers at their limits are allowed.
func TestCheckAllowed(t *testing.T) {
	for i, change := range []func(s *tide.Sands){
		func(s *tide.Sands) {},
		func(s *tide.Sands) { s.Table = s.Table[:2] },
		func(s *tide.Sands) { s.Table = waters(12) },
		func(s *tide.Sands) { s.Table[2].Minute = 1440 },
		func(s *tide.Sands) { s.Table[1].Minute = 1 },
		func(s *tide.Sands) { s.Table[0].Height, s.Table[1].Height = 0, 999 },
		func(s *tide.Sands) { s.Table[0].Height, s.Table[1].Height = 999, 999 },
		func(s *tide.Sands) { s.Wind = span(-50, 50) },
		func(s *tide.Sands) { s.Wind = span(-50, -50) },
		func(s *tide.Sands) { s.Wind = span(50, 50) },
		func(s *tide.Sands) { s.Wind = span(0, 0) },
		func(s *tide.Sands) { s.Floors = list(0); s.Sills = nil },
		func(s *tide.Sands) { s.Floors = list(0, 999) },
		func(s *tide.Sands) { s.Floors = make([]int, 8); s.Sills[0].B = 7 },
		func(s *tide.Sands) { s.Sills = nil },
		func(s *tide.Sands) { s.Sills = []tide.Sill{} },
		func(s *tide.Sands) { s.Sills[0].Height, s.Sills[1].Height = 0, 999 },
		func(s *tide.Sands) { s.Sills = slices.Repeat(s.Sills[:1], 16) },
		func(s *tide.Sands) { s.Sills[0] = tide.Sill{A: 1, B: tide.Sea, Height: 5} },
	} {
		s := two()
		change(&s)
		if e := tide.Check(s); e != api.OK {
			t.Error(i, e)
		}
	}
}

// call is a function, asked with some arguments of its own.
type call struct {
	name string
	ask  func(s tide.Sands) (isZero bool, e api.Errno)
}

// calls returns all functions but Check; their own arguments are a number n for all that they ask, and lists of it.
func calls(n int) []call {
	far := slices.Repeat([]tide.Look{{Minute: n, Place: n}}, 11)
	return []call{
		{"Height", func(s tide.Sands) (bool, api.Errno) { x, e := tide.Height(s, n); return zero(x), e }},
		{"Level", func(s tide.Sands) (bool, api.Errno) { x, e := tide.Level(s, n); return zero(x), e }},
		{"Gate", func(s tide.Sands) (bool, api.Errno) { x, e := tide.Gate(s, n); return zero(x), e }},
		{"Way", func(s tide.Sands) (bool, api.Errno) { x, e := tide.Way(s, n); return zero(x), e }},
		{"Crest", func(s tide.Sands) (bool, api.Errno) { x, e := tide.Crest(s, n, list(n)); return zero(x), e }},
		{"Bank", func(s tide.Sands) (bool, api.Errno) { x, y, e := tide.Bank(s, n); return zero(x, y), e }},
		{"Hold", func(s tide.Sands) (bool, api.Errno) { x, e := tide.Hold(s, n, list(n, n), list(n)); return zero(x), e }},
		{"At", func(s tide.Sands) (bool, api.Errno) { x, e := tide.At(s, n, n); return zero(x), e }},
		{"All", func(s tide.Sands) (bool, api.Errno) { x, e := tide.All(s, n); return zero(x), e }},
		{"Spans", func(s tide.Sands) (bool, api.Errno) { x, e := tide.Spans(s, n, tide.State(n)); return zero(x), e }},
		{"Turn", func(s tide.Sands) (bool, api.Errno) { x, e := tide.Turn(s, n, n); return zero(x), e }},
		{"Flood", func(s tide.Sands) (bool, api.Errno) { x, y, e := tide.Flood(s, n); return zero(x, y), e }},
		{"Longest", func(s tide.Sands) (bool, api.Errno) { x, e := tide.Longest(s, list(n)); return zero(x), e }},
		{"Looks", func(s tide.Sands) (bool, api.Errno) { x, e := tide.Looks(s, far); return zero(x), e }},
		{"Clash", func(s tide.Sands) (bool, api.Errno) { x, e := tide.Clash(s, far); return zero(x), e }},
		{"Ask", func(s tide.Sands) (bool, api.Errno) { x, y, e := tide.Ask(s); return zero(x, y), e }},
	}
}

// P1.1, R1, R2: all functions return the errors of Check first, and zero beside them.
func TestCheckFirst(t *testing.T) {
	for _, f := range faults() {
		s := two()
		f.spoil(&s)
		for _, n := range list(0, -2, 9999, math.MaxInt, math.MinInt) {
			for _, c := range calls(n) {
				if isZero, e := c.ask(s); e != f.e || !isZero {
					t.Error(f.name, c.name, n, isZero, e)
				}
			}
		}
	}
}

// P1.1: Height and Level at the minutes of example 1, and at both ends of the day.
func TestHeightExample(t *testing.T) {
	for _, x := range [][2]int{{0, 100}, {1, 100}, {2, 101}, {90, 175}, {91, 175}, {120, 200}, {359, 399}, {360, 400}, {361, 399}, {400, 370}, {699, 150}, {700, 150}} {
		h, e := tide.Height(two(), x[0])
		v, f := tide.Level(two(), x[0])
		if h != x[1] || v != span(x[1]-10, x[1]+20) || e != api.OK || f != api.OK {
			t.Error(x, h, v, e, f)
		}
	}
}

// P1.1: the greatest and the least numbers that heights and levels come to.
func TestHeightLimits(t *testing.T) {
	s := two()
	s.Table = []tide.Water{{Minute: 0, Height: 999}, {Minute: 1440, Height: 0}}
	s.Wind = span(-50, 50)
	for _, x := range [][2]int{{0, 999}, {1, 998}, {720, 499}, {1439, 0}, {1440, 0}} {
		h, e := tide.Height(s, x[0])
		v, f := tide.Level(s, x[0])
		if h != x[1] || v != span(x[1]-50, x[1]+50) || e != api.OK || f != api.OK {
			t.Error(x, h, v, e, f)
		}
	}
}

// P1.1: the error of a minute, one beyond the day and far off; the day begins with the first water.
func TestHeightErrors(t *testing.T) {
	for _, x := range []struct {
		s      tide.Sands
		minute int
	}{
		{two(), -1}, {two(), 701}, {two(), math.MaxInt}, {two(), math.MinInt}, {hills(), 9}, {hills(), 91}, {hills(), 0},
	} {
		h, e := tide.Height(x.s, x.minute)
		v, f := tide.Level(x.s, x.minute)
		all, g := tide.All(x.s, x.minute)
		if !zero(h, v, all) || e != api.ErrLimit || f != api.ErrLimit || g != api.ErrLimit {
			t.Error(x.minute, h, v, all, e, f, g)
		}
	}
	for _, minute := range list(10, 90) {
		if _, e := tide.Height(hills(), minute); e != api.OK {
			t.Error(minute, e)
		}
	}
}

// P1.1: heights and levels of many sands, minute by minute.
func TestHeightMany(t *testing.T) {
	forMany(t, 300, func(_ *rand.Rand, o slow) {
		for _, minute := range o.day() {
			want := o.height(minute)
			h, e := tide.Height(o.Sands, minute)
			v, f := tide.Level(o.Sands, minute)
			if h != want || v != span(want+o.Wind.Lo, want+o.Wind.Hi) || e != api.OK || f != api.OK {
				t.Error(o, minute, h, v, want, e, f)
			}
		}
	})
}
