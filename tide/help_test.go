package tide_test

import (
	"math/rand"
	"reflect"
	"slices"
	"testing"

	"laurel/api"
	"laurel/tide"
)

// two is the sands of the chapter's examples.
func two() tide.Sands {
	return tide.Sands{
		Table:  []tide.Water{{Minute: 0, Height: 100}, {Minute: 360, Height: 400}, {Minute: 700, Height: 150}},
		Wind:   span(-10, 20),
		Floors: []int{180, 220},
		Sills:  []tide.Sill{{A: tide.Sea, B: 0, Height: 200}, {A: 0, B: 1, Height: 160}, {A: tide.Sea, B: 1, Height: 300}},
	}
}

// apart is those sands with the sill between the places alone: no water comes to them.
func apart() tide.Sands {
	s := two()
	s.Sills = s.Sills[1:2]
	return s
}

// hills has a day from 10 to 90 with two tides; place 0 has the gate 130, place 1 the gate 150.
func hills() tide.Sands {
	return tide.Sands{
		Table: []tide.Water{
			{Minute: 10, Height: 110}, {Minute: 30, Height: 170}, {Minute: 50, Height: 100}, {Minute: 70, Height: 160}, {Minute: 90, Height: 120},
		},
		Wind:   span(-3, 5),
		Floors: []int{130, 150},
		Sills:  []tide.Sill{{A: 0, B: tide.Sea, Height: 120}, {A: 1, B: 0, Height: 140}},
	}
}

func span(lo, hi int) api.Span           { return api.Span{Lo: lo, Hi: hi} }
func list(n ...int) []int                { return n }
func wet(minute, place int) tide.Look    { return tide.Look{Minute: minute, Place: place, Wet: true} }
func dry(minute, place int) tide.Look    { return tide.Look{Minute: minute, Place: place} }
func looks(all ...tide.Look) []tide.Look { return all }

// copied returns sands that share no memory with others.
func copied(s tide.Sands) tide.Sands {
	s.Table = slices.Clone(s.Table)
	s.Floors = slices.Clone(s.Floors)
	s.Sills = slices.Clone(s.Sills)
	return s
}

// zero reports whether all results are zero; an empty list is as good as nil.
func zero(results ...any) bool {
	for _, x := range results {
		v := reflect.ValueOf(x)
		if v.Kind() == reflect.Slice && v.Len() == 0 || v.IsZero() {
			continue
		}
		return false
	}
	return true
}

// slow answers from the chapter's terms, word for word, by trying all ways and truths.
type slow struct{ tide.Sands }

func (o slow) height(minute int) int {
	for _, x := range o.Table {
		if x.Minute == minute {
			return x.Height
		}
	}
	i := slices.IndexFunc(o.Table, func(x tide.Water) bool { return x.Minute > minute })
	a, b := o.Table[i-1], o.Table[i]
	rise, run := (b.Height-a.Height)*(minute-a.Minute), b.Minute-a.Minute
	h := a.Height + rise/run
	if rise < 0 && rise%run != 0 {
		h--
	}
	return h
}

// ways returns all ways to a place.
func (o slow) ways(place int) [][]int {
	var out [][]int
	met := map[int]bool{tide.Sea: true}
	var walk func(at int, way []int)
	walk = func(at int, way []int) {
		if at == place {
			out = append(out, slices.Clone(way))
		}
		for i, x := range o.Sills {
			to := x.A
			if x.A == at {
				to = x.B
			} else if x.B != at {
				continue
			}
			if !met[to] {
				met[to] = true
				walk(to, append(way, i))
				delete(met, to)
			}
		}
	}
	walk(tide.Sea, nil)
	return out
}

// over returns the places to which the sills of a way lead.
func (o slow) over(way []int) []int {
	at := tide.Sea
	var out []int
	for _, i := range way {
		at = o.Sills[i].A + o.Sills[i].B - at
		out = append(out, at)
	}
	return out
}

func (o slow) crest(way []int) int {
	crest := 0
	for _, i := range way {
		crest = max(crest, o.Sills[i].Height)
	}
	for _, p := range o.over(way) {
		crest = max(crest, o.Floors[p])
	}
	return crest
}

func (o slow) gate(place int) (int, bool) {
	ways := o.ways(place)
	if len(ways) == 0 {
		return 0, false
	}
	least := o.crest(ways[0])
	for _, way := range ways {
		least = min(least, o.crest(way))
	}
	return least, true
}

// gates returns the gates of all places, and a height to which no water comes for those without one.
func (o slow) gates() []int {
	var out []int
	for p := range o.Floors {
		g, ok := o.gate(p)
		if !ok {
			g = 5000
		}
		out = append(out, g)
	}
	return out
}

// state returns that of a place by all truths, one after the other.
func (o slow) state(minute, gate int) tide.State {
	dry, wet := 0, 0
	for truth := o.Wind.Lo; truth <= o.Wind.Hi; truth++ {
		if o.height(minute)+truth > gate {
			wet++
		} else {
			dry++
		}
	}
	switch {
	case wet == 0:
		return tide.Dry
	case dry == 0:
		return tide.Wet
	}
	return tide.Perhaps
}

func (o slow) day() []int {
	var out []int
	for m := o.Table[0].Minute; m <= o.Table[len(o.Table)-1].Minute; m++ {
		out = append(out, m)
	}
	return out
}

// states returns the states of all minutes of the day, each with those of all places.
func (o slow) states() map[int][]tide.State {
	out := map[int][]tide.State{}
	gates := o.gates()
	for _, m := range o.day() {
		for _, g := range gates {
			out[m] = append(out[m], o.state(m, g))
		}
	}
	return out
}

// spans returns the spans of the minutes of the day for which is holds.
func (o slow) spans(is func(minute int) bool) []api.Span {
	var out []api.Span
	for _, m := range o.day() {
		switch n := len(out); {
		case !is(m):
		case n > 0 && out[n-1].Hi == m-1:
			out[n-1].Hi = m
		default:
			out = append(out, span(m, m))
		}
	}
	return out
}

// anySands returns sands with small numbers, so that heights often are the same, or meet just so.
func anySands(r *rand.Rand, places, sills int) tide.Sands {
	s := tide.Sands{Wind: span(0, 0)}
	minute := r.Intn(5)
	for range 2 + r.Intn(4) {
		s.Table = append(s.Table, tide.Water{Minute: minute, Height: 20 + r.Intn(30)})
		minute += 1 + r.Intn(12)
	}
	s.Wind.Lo = r.Intn(9) - 6
	s.Wind.Hi = s.Wind.Lo + r.Intn(7)
	for range 1 + r.Intn(places) {
		s.Floors = append(s.Floors, 20+r.Intn(25))
	}
	for range r.Intn(sills + 1) {
		a, b := r.Intn(len(s.Floors)+1)-1, r.Intn(len(s.Floors)+1)-1
		if a != b {
			s.Sills = append(s.Sills, tide.Sill{A: a, B: b, Height: 20 + r.Intn(25)})
		}
	}
	return s
}

// forMany asks something of many sands.
func forMany(t *testing.T, times int, ask func(r *rand.Rand, o slow)) {
	t.Helper()
	r := rand.New(rand.NewSource(1))
	for range times {
		ask(r, slow{anySands(r, 5, 8)})
		if t.Failed() {
			return
		}
	}
}
