package ford_test

import (
	"math/rand"
	"reflect"
	"slices"
	"testing"

	"laurel/api"
	"laurel/ford"
)

// three is the sands of the chapter's examples.
func three() ford.Sands {
	return ford.Sands{
		Places: 3, Home: 0, Bed: 2, Last: 12,
		Ways:  [][3]int{{0, 1, 2}, {1, 2, 2}},
		Looks: [][]int{{0, 0, 0}, {0, 0, 0}},
		Truths: []ford.Truth{
			truth(spans(0, 12), spans(0, 9), spans(0, 7)),
			truth(spans(0, 12), spans(0, 6), spans(0, 5)),
		},
	}
}

// seen is those sands with the truths told apart at a place.
func seen(place int) ford.Sands {
	s := three()
	s.Looks[1][place] = 1
	return s
}

// first is those sands with truth 0 alone.
func first() ford.Sands {
	s := three()
	s.Looks, s.Truths = s.Looks[:1], s.Truths[:1]
	return s
}

// near has its home at place 1, and its bed, dry from minute 1 to 3, at place 0 in one minute.
func near() ford.Sands {
	return ford.Sands{
		Places: 2, Home: 1, Bed: 0, Last: 4,
		Ways:   [][3]int{{0, 1, 1}},
		Looks:  [][]int{{0, 0}},
		Truths: []ford.Truth{truth(spans(1, 3), spans(0, 4))},
	}
}

// fork has two channels between home (place 0) and the bed (place 3); each one is dry longer in one of the truths.
func fork() ford.Sands {
	return ford.Sands{
		Places: 4, Home: 0, Bed: 3, Last: 9,
		Ways:  [][3]int{{0, 1, 1}, {0, 2, 1}, {1, 3, 1}, {2, 3, 1}},
		Looks: [][]int{{0, 0, 0, 0}, {0, 0, 0, 0}},
		Truths: []ford.Truth{
			truth(spans(0, 9), spans(0, 7), spans(0, 2), spans(0, 7)),
			truth(spans(0, 9), spans(0, 2), spans(0, 7), spans(0, 7)),
		},
	}
}

// widest is as large as sands can be: all ways that there can be, and all always dry; everything is seen at place 3.
func widest() ford.Sands {
	s := ford.Sands{Places: 5, Home: 4, Bed: 0, Last: 60}
	for a := range 5 {
		for b := range a {
			s.Ways = append(s.Ways, [3]int{a, b, a + b + 13})
		}
	}
	for i := range 4 {
		s.Looks = append(s.Looks, list(0, i/2, 3, i, 0))
		s.Truths = append(s.Truths, truth(spans(0, 60), spans(0, 60), spans(0, 60), spans(0, 60), spans(0, 60)))
	}
	return s
}

func list(n ...int) []int                 { return n }
func steps(t ...ford.Step) []ford.Step    { return t }
func states(x ...ford.State) []ford.State { return x }
func step(to, minutes int) ford.Step      { return ford.Step{To: to, Minutes: minutes} }
func truth(dry ...[]api.Span) ford.Truth  { return ford.Truth{Dry: dry} }

func at(place, minute, left int) ford.State {
	return ford.State{Place: place, Minute: minute, Left: left}
}

// spans returns the spans with these ends.
func spans(ends ...int) []api.Span {
	var out []api.Span
	for i := 0; i < len(ends); i += 2 {
		out = append(out, api.Span{Lo: ends[i], Hi: ends[i+1]})
	}
	return out
}

// copied returns sands that share no memory with others.
func copied(s ford.Sands) ford.Sands {
	s.Ways = slices.Clone(s.Ways)
	looks, truths := s.Looks, s.Truths
	s.Looks, s.Truths = nil, nil
	for _, l := range looks {
		s.Looks = append(s.Looks, slices.Clone(l))
	}
	for _, x := range truths {
		var dry [][]api.Span
		for _, l := range x.Dry {
			dry = append(dry, slices.Clone(l))
		}
		s.Truths = append(s.Truths, truth(dry...))
	}
	return s
}

// zero reports whether all results are zero; an empty list is as good as nil.
func zero(results ...any) bool {
	for _, x := range results {
		v := reflect.ValueOf(x)
		if v.Kind() == reflect.Slice && v.Len() == 0 || v.IsZero() {
			continue
		}
		return false
	}
	return true
}

func sameTable(a, b ford.Table) bool {
	return slices.EqualFunc(a, b, func(x, y [][]int) bool { return slices.EqualFunc(x, y, slices.Equal) })
}

// slow answers from the chapter's terms, word for word.
type slow struct{ ford.Sands }

// all returns the set of all truths.
func (o slow) all() int {
	set := 0
	for i, power := 0, 1; i < len(o.Truths); i, power = i+1, power*2 {
		set += power
	}
	return set
}

// has reports whether a truth is one of a set.
func has(set, truth int) bool {
	for range truth {
		set /= 2
	}
	return set%2 == 1
}

func (o slow) isDry(place, minute, truth int) bool {
	for _, x := range o.Truths[truth].Dry[place] {
		for m := x.Lo; m <= x.Hi; m++ {
			if m == minute {
				return true
			}
		}
	}
	return false
}

// setOf returns the set of the truths for which something is so.
func (o slow) setOf(is func(truth int) bool) int {
	set, power := 0, 1
	for i := range o.Truths {
		if is(i) {
			set += power
		}
		power *= 2
	}
	return set
}

func (o slow) seen(place, left int) []int {
	var out []int
	for look := range ford.MaxLook + 1 {
		if part := o.setOf(func(i int) bool { return has(left, i) && o.Looks[i][place] == look }); part > 0 {
			out = append(out, part)
		}
	}
	return out
}

func (o slow) isSafe(x ford.State) bool {
	for i := range o.Truths {
		if has(x.Left, i) && !o.isDry(x.Place, x.Minute, i) {
			return false
		}
	}
	return x.Left != 0
}

// there reports whether a step is one that there is from a place, whether it is allowed or not.
func (o slow) there(place int, t ford.Step) bool {
	for _, w := range o.Ways {
		if w == [3]int{place, t.To, t.Minutes} || w == [3]int{t.To, place, t.Minutes} {
			return true
		}
	}
	return t == step(place, 1)
}

func (o slow) after(x ford.State, t ford.Step) []ford.State {
	var out []ford.State
	for _, part := range o.seen(t.To, x.Left) {
		out = append(out, at(t.To, x.Minute+t.Minutes, part))
	}
	return out
}

func (o slow) isAllowed(x ford.State, t ford.Step) bool {
	return o.there(x.Place, t) && x.Minute+t.Minutes <= o.Last &&
		!slices.ContainsFunc(o.after(x, t), func(y ford.State) bool { return !o.isSafe(y) })
}

// steps tries all places and minutes.
func (o slow) steps(x ford.State) []ford.Step {
	var out []ford.Step
	for to := range o.Places {
		for minutes := range ford.MaxWay + 1 {
			if t := step(to, minutes); o.isSafe(x) && o.isAllowed(x, t) {
				out = append(out, t)
			}
		}
	}
	return out
}

// works returns 1 if a step is to wait at the bed, otherwise 0.
func (o slow) works(place int, t ford.Step) int {
	if place == o.Bed && t == step(o.Bed, 1) {
		return 1
	}
	return 0
}

// aim is a state, and how much work is still to be made sure of.
type aim struct {
	x ford.State
	n int
}

// player tries all choices of steps, for each number of minutes of work on its own.
type player struct {
	slow
	known map[aim]bool
}

func play(s ford.Sands) player { return player{slow{s}, map[aim]bool{}} }

// can reports whether a cart can be brought home with n minutes of work, or more, in each truth that is left.
func (p player) can(x ford.State, n int) bool {
	a := aim{x, max(n, 0)}
	if is, ok := p.known[a]; ok {
		return is
	}
	is := p.isSafe(x) && x.Place == p.Home && n <= 0
	for _, t := range p.steps(x) {
		all := true
		for _, y := range p.after(x, t) {
			all = all && p.can(y, a.n-p.works(x.Place, t))
		}
		is = is || all
	}
	p.known[a] = is
	return is
}

func (p player) worth(x ford.State) int {
	for n := p.Last; n >= 0; n-- {
		if p.can(x, n) {
			return n
		}
	}
	return ford.Lost
}

// rule returns the first step that keeps the worth of a state.
func (p player) rule(x ford.State) (ford.Step, api.Errno) {
	n := p.worth(x)
	if n == ford.Lost || n == 0 && x.Place == p.Home {
		return ford.Step{}, api.ErrNone
	}
	for _, t := range p.steps(x) {
		keeps := true
		for _, y := range p.after(x, t) {
			keeps = keeps && p.can(y, n-p.works(x.Place, t))
		}
		if keeps {
			return t, api.OK
		}
	}
	panic("a worth without a step")
}

// start returns the worth of the start at a minute.
func (p player) start(minute int) int {
	least := ford.MaxMinute
	for _, part := range p.seen(p.Home, p.all()) {
		least = min(least, p.worth(at(p.Home, minute, part)))
	}
	return least
}

// telling returns sands in which everything is seen at a place.
func telling(s ford.Sands, place int) ford.Sands {
	s = copied(s)
	for i := range s.Looks {
		s.Looks[i][place] = i
	}
	return s
}

// states returns all states that can be asked for.
func (o slow) states() []ford.State {
	var out []ford.State
	for place := range o.Places {
		for minute := range o.Last + 1 {
			for left := 1; left <= o.all(); left++ {
				out = append(out, at(place, minute, left))
			}
		}
	}
	return out
}

// anySpans returns spans that leave few minutes wet.
func anySpans(r *rand.Rand, last int) []api.Span {
	var out []api.Span
	from := r.Intn(2)
	for from <= last {
		to := min(last, from+r.Intn(last+3))
		out = append(out, api.Span{Lo: from, Hi: to})
		from = to + 2 + r.Intn(2)
		if r.Intn(2) == 0 {
			break
		}
	}
	return out
}

// anySands returns small sands, with ways and ends in any order.
func anySands(r *rand.Rand, places, truths, last int) ford.Sands {
	s := ford.Sands{Places: 2 + r.Intn(places-1), Last: 1 + r.Intn(last)}
	ends := r.Perm(s.Places)
	s.Home, s.Bed = ends[0], ends[1]
	for _, a := range r.Perm(s.Places) {
		for _, b := range r.Perm(a) {
			way := [3]int{a, b, 1 + r.Intn(3)}
			if r.Intn(2) == 0 {
				way = [3]int{b, a, way[2]}
			}
			if r.Intn(5) > 0 {
				s.Ways = append(s.Ways, way)
			}
		}
	}
	looks := 1 + r.Intn(4)
	for range 1 + r.Intn(truths) {
		var seen []int
		var dry [][]api.Span
		for range s.Places {
			seen = append(seen, r.Intn(looks))
			dry = append(dry, anySpans(r, s.Last))
		}
		s.Looks = append(s.Looks, seen)
		s.Truths = append(s.Truths, truth(dry...))
	}
	return s
}

// forMany asks something of many sands.
func forMany(t *testing.T, times int, ask func(r *rand.Rand, s ford.Sands)) {
	t.Helper()
	r := rand.New(rand.NewSource(2))
	for range times {
		ask(r, anySands(r, 4, 3, 9))
		if t.Failed() {
			return
		}
	}
}
