package tide_test

import (
	"math"
	"math/rand"
	"reflect"
	"slices"
	"testing"

	"laurel/api"
	"laurel/tide"
)

// P1.7: no way to a place has a lesser crest than any bank for it is high.
func TestNoWayBelowBank(t *testing.T) {
	r := rand.New(rand.NewSource(4))
	for range 60 {
		s := anySands(r, 3, 5)
		for place := range s.Floors {
			lowest, highest := math.MaxInt, math.MinInt
			for _, way := range lists(len(s.Sills), 3) {
				if crest, e := tide.Crest(s, place, way); e == api.OK {
					lowest = min(lowest, crest)
				}
			}
			for bits := range 1 << len(s.Sills) {
				for more := range 1 << len(s.Floors) {
					if height, e := tide.Hold(s, place, subset(bits), subset(more)); e == api.OK {
						highest = max(highest, height)
					}
				}
			}
			gate, e := tide.Gate(s, place)
			if e == api.OK && (lowest != gate || highest != gate) || e == api.ErrNone && lowest != math.MaxInt {
				t.Error(s, place, gate, e, lowest, highest)
			}
		}
	}
}

// P1.7: raising a sill or a floor never lowers a gate.
func TestRaising(t *testing.T) {
	forMany(t, 200, func(r *rand.Rand, o slow) {
		higher := copied(o.Sands)
		if len(higher.Sills) > 0 && r.Intn(2) == 0 {
			higher.Sills[r.Intn(len(higher.Sills))].Height += r.Intn(20)
		} else {
			higher.Floors[r.Intn(len(higher.Floors))] += r.Intn(20)
		}
		for place := range o.Floors {
			before, e := tide.Gate(o.Sands, place)
			after, f := tide.Gate(higher, place)
			if after < before || e != f {
				t.Error(o, higher, place, before, after, e, f)
			}
		}
	})
}

// P1.7: all states remain if the wind is shifted, and the table the other way.
func TestShifting(t *testing.T) {
	forMany(t, 200, func(r *rand.Rand, o slow) {
		by := r.Intn(31) - 15
		other := copied(o.Sands)
		other.Wind = span(other.Wind.Lo+by, other.Wind.Hi+by)
		for i := range other.Table {
			other.Table[i].Height -= by
		}
		for _, minute := range o.day() {
			before, e := tide.All(o.Sands, minute)
			after, f := tide.All(other, minute)
			if !slices.Equal(before, after) || e != api.OK || f != api.OK {
				t.Error(o, other, minute, before, after, e, f)
			}
		}
	})
}

// P1.7: a place to which every way leads over another one is never wet while that one is dry.
func TestBehindAnother(t *testing.T) {
	found := 0
	forMany(t, 200, func(_ *rand.Rand, o slow) {
		for place := range o.Floors {
			ways := o.ways(place)
			for other := range o.Floors {
				behind := len(ways) > 0 && !slices.ContainsFunc(ways, func(way []int) bool { return !slices.Contains(o.over(way), other) })
				if other == place || !behind {
					continue
				}
				found++
				for truth := o.Wind.Lo; truth <= o.Wind.Hi; truth++ {
					one := copied(o.Sands)
					one.Wind = span(truth, truth)
					for _, minute := range o.day() {
						all, e := tide.All(one, minute)
						if e != api.OK || all[place] == tide.Wet && all[other] == tide.Dry {
							t.Error(o, truth, minute, place, other, all, e)
						}
					}
				}
			}
		}
	})
	if found < 20 {
		t.Error("too few places that are behind others to show anything", found)
	}
}

// P1.7, P0.2: no look that a truth agrees with widens what is perhaps; what is certain remains so.
func TestLooksNeverWiden(t *testing.T) {
	forMany(t, 300, func(r *rand.Rand, o slow) {
		look := tide.Look{Minute: o.day()[r.Intn(len(o.day()))], Place: r.Intn(len(o.Floors)), Wet: r.Intn(2) == 0}
		left, e := tide.Looks(o.Sands, looks(look))
		if e == api.ErrClash {
			return
		}
		after := copied(o.Sands)
		after.Wind = left
		for _, minute := range o.day() {
			all, e := tide.All(o.Sands, minute)
			less, f := tide.All(after, minute)
			if e != api.OK || f != api.OK {
				t.Error(o, minute, e, f)
			}
			for place := range all {
				if less[place] != all[place] && all[place] != tide.Perhaps {
					t.Error(o, look, minute, place, all, less)
				}
			}
		}
		if state, e := tide.At(after, look.Minute, look.Place); e != api.OK || state == tide.Perhaps || (state == tide.Wet) != look.Wet {
			t.Error(o, look, state, e)
		}
	})
}

// P0.1: no function panics, whatever its arguments are.
func TestAnyArguments(t *testing.T) {
	numbers := list(0, 1, -1, 2, 7, 8, 9, 50, -51, 100, 999, 1000, 1440, 1441, math.MaxInt, math.MinInt, math.MaxInt32)
	r := rand.New(rand.NewSource(5))
	pick := func() int { return numbers[r.Intn(len(numbers))] }
	for range 3000 {
		s := tide.Sands{Wind: span(pick(), pick())}
		if r.Intn(2) == 0 {
			s = anySands(r, 8, 16)
		}
		for range r.Intn(3) {
			s.Table = append(s.Table, tide.Water{Minute: pick(), Height: pick()})
		}
		for range r.Intn(3) {
			s.Floors = append(s.Floors, pick())
		}
		for range r.Intn(3) {
			s.Sills = append(s.Sills, tide.Sill{A: pick(), B: pick(), Height: pick()})
		}
		want := tide.Check(s)
		for _, c := range calls(pick()) {
			if isZero, e := c.ask(s); e != api.OK && !isZero || want != api.OK && e != want {
				t.Error(c.name, s, isZero, e)
			}
		}
	}
}

// everything returns all results for sands, so that they can be held against others.
func everything(s tide.Sands, sills, places []int, looks []tide.Look) []any {
	out := []any{tide.Check(s)}
	keep := func(results ...any) {
		for _, x := range results {
			if v := reflect.ValueOf(x); v.Kind() == reflect.Slice && v.Len() == 0 {
				x = nil
			}
			out = append(out, x)
		}
	}
	for place := range 2 {
		gate, e := tide.Gate(s, place)
		keep(gate, e)
		way, e := tide.Way(s, place)
		keep(way, e)
		crest, e := tide.Crest(s, place, sills)
		keep(crest, e)
		a, b, e := tide.Bank(s, place)
		keep(a, b, e)
		height, e := tide.Hold(s, place, sills, places)
		keep(height, e)
		spans, e := tide.Spans(s, place, tide.Dry)
		keep(spans, e)
		turn, e := tide.Turn(s, place, 10)
		keep(turn, e)
	}
	h, e := tide.Height(s, 20)
	keep(h, e)
	v, e := tide.Level(s, 20)
	keep(v, e)
	at, e := tide.At(s, 20, 1)
	keep(at, e)
	all, e := tide.All(s, 20)
	keep(all, e)
	first, flooded, e := tide.Flood(s, 10)
	keep(first, flooded, e)
	longest, e := tide.Longest(s, places)
	keep(longest, e)
	left, e := tide.Looks(s, looks)
	keep(left, e)
	clash, e := tide.Clash(s, looks)
	keep(clash, e)
	look, n, e := tide.Ask(s)
	keep(look, n, e)
	return out
}

// R4, R5: arguments come back unchanged, and the same question has the same answer again.
func TestArgumentsUnchanged(t *testing.T) {
	for _, s := range []tide.Sands{two(), hills()} {
		same := copied(s)
		sills, places := list(1, 0), list(1, 0)
		said := looks(wet(20, 1), dry(20, 0), dry(15, 1))
		before := everything(s, sills, places, said)
		if after := everything(s, sills, places, said); !reflect.DeepEqual(before, after) {
			t.Error(before, after)
		}
		if !reflect.DeepEqual(s, same) || !slices.Equal(sills, list(1, 0)) || !slices.Equal(places, list(1, 0)) {
			t.Error(s, sills, places)
		}
		if !slices.Equal(said, looks(wet(20, 1), dry(20, 0), dry(15, 1))) {
			t.Error(said)
		}
	}
}

// R4: a list that has room behind it is not written to.
func TestRoomUnchanged(t *testing.T) {
	room := list(0, 1, 55, 66)
	tide.Crest(two(), 1, room[:2])
	tide.Hold(two(), 0, room[:2], room[1:2])
	tide.Longest(two(), room[:2])
	if !slices.Equal(room, list(0, 1, 55, 66)) {
		t.Error(room)
	}
}

// spoil overwrites a list, and the room behind it.
func spoil[T any](l []T, x T) {
	l = l[:cap(l)]
	for i := range l {
		l[i] = x
	}
}

// R4: results share no memory with arguments, with each other, or with later results.
func TestResultsApart(t *testing.T) {
	s := two()
	way, _ := tide.Way(s, 1)
	spoil(way, 77)
	all, _ := tide.All(s, 120)
	spoil(all, 77)
	spans, _ := tide.Spans(s, 0, tide.Dry)
	spoil(spans, span(77, 77))
	_, flooded, _ := tide.Flood(s, 0)
	spoil(flooded, 77)
	clash, _ := tide.Clash(s, looks(wet(0, 0)))
	spoil(clash, 77)
	if !reflect.DeepEqual(s, two()) || !reflect.DeepEqual(everything(s, nil, nil, nil), everything(two(), nil, nil, nil)) {
		t.Error(s)
	}
	// Place 1 of these sands has but banks of a sill and a place.
	s.Floors, s.Sills[1].Height, s.Sills[2].Height = list(250, 10), 5, 250
	sills, places, e := tide.Bank(s, 1)
	if !slices.Equal(sills, list(2)) || !slices.Equal(places, list(0)) || e != api.OK {
		t.Error(sills, places, e)
	}
	spoil(sills, 77)
	if !slices.Equal(places, list(0)) {
		t.Error(places)
	}
	if again, more, e := tide.Bank(s, 1); !slices.Equal(again, list(2)) || !slices.Equal(more, list(0)) || e != api.OK {
		t.Error(again, more, e)
	}
}

// R3: nil lists and empty lists are the same.
func TestEmptyLists(t *testing.T) {
	none := two()
	none.Sills = nil
	empty := two()
	empty.Sills = []tide.Sill{}
	a := everything(none, nil, nil, nil)
	b := everything(empty, list(), list(), looks())
	if !reflect.DeepEqual(a, b) {
		t.Error(a, b)
	}
}
