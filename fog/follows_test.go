package fog_test

import (
	"math/rand"
	"reflect"
	"slices"
	"testing"

	"laurel/api"
	"laurel/fog"
)

// P5.7, P0.6: a cart can be just where walks that fit come, by what is told of each list of places.
func TestPlacesAreThoseOfWalks(t *testing.T) {
	forMany(t, 150, func(_ *rand.Rand, f fog.Fog) {
		met := map[[2]int]bool{}
		many := 0
		for _, walk := range (slow{f}).walks((slow{f}).all()) {
			is, e := fog.Fits(f, 0, walk)
			if e != api.OK {
				t.Error(f, walk, e)
			}
			if !is {
				continue
			}
			many++
			for minute, place := range walk {
				met[[2]int{minute, place}] = true
			}
		}
		if n, e := fog.Count(f, 0); n != many || e != api.OK {
			t.Error(f, n, many, e)
		}
		for minute := range last(f) + 1 {
			places, e := fog.At(f, 0, minute)
			if (e == api.OK) != (many > 0) || many == 0 && e != api.ErrClash {
				t.Error(f, minute, places, many, e)
			}
			for place := range f.Sands.Places {
				if met[[2]int{minute, place}] != slices.Contains(places, place) {
					t.Error(f, minute, place, places)
				}
			}
		}
	})
}

// P5.7: one report more leaves no place at which the cart could not be before, and no more walks.
func TestReportMore(t *testing.T) {
	var less, clash int
	forMany(t, 600, func(r *rand.Rand, f fog.Fog) {
		if len(f.Blasts) == 0 {
			return
		}
		x := fog.Report{Blast: r.Intn(len(f.Blasts)), Heard: r.Intn(2) == 0}
		more, e := fog.With(f, 0, x)
		if e != api.OK {
			return
		}
		before, e := fog.Count(f, 0)
		after, g := fog.Count(more, 0)
		if after > before || e != api.OK || g != api.OK {
			t.Error(f, x, before, after, e, g)
		}
		if after == 0 {
			clash++
			return
		}
		for minute := range last(f) + 1 {
			all, e := fog.At(f, 0, minute)
			some, g := fog.At(more, 0, minute)
			if !hasAll(all, some) || len(some) == 0 || e != api.OK || g != api.OK {
				t.Error(f, x, minute, all, some, e, g)
			}
			if len(some) < len(all) {
				less++
			}
		}
		always, never, e := fog.Heard(more, 0, x.Blast)
		if always != x.Heard || never == x.Heard || e != api.OK {
			t.Error(f, x, always, never, e)
		}
	})
	if less < 50 || clash < 20 {
		t.Error("too few reports of a kind to show anything", less, clash)
	}
}

// P5.7: blasts decide just if Apart returns no pair for them, and none do just if there are twins.
func TestDecideIsApart(t *testing.T) {
	var decided, open int
	forMany(t, 1000, func(r *rand.Rand, f fog.Fog) {
		minute, loud := r.Intn(last(f)+1), r.Intn(5)
		twins, e := fog.Twins(f, 0, minute, loud)
		horns, g := fog.Decide(f, 0, minute, loud)
		if e != api.OK {
			if g != e || e != api.ErrClash {
				t.Error(f, minute, loud, e, g)
			}
			return
		}
		if (g == api.ErrNone) != (len(twins) > 0) || g != api.OK && g != api.ErrNone {
			t.Error(f, minute, loud, twins, horns, g)
		}
		if g != api.OK {
			open++
			return
		}
		if left, e := fog.Apart(f, 0, minute, loudly(horns, loud)); !zero(left) || e != api.OK {
			t.Error(f, minute, loud, horns, left, e)
		}
		for i := range horns {
			decided++
			if left, e := fog.Apart(f, 0, minute, loudly(without(horns, i), loud)); zero(left) || e != api.OK {
				t.Error(f, minute, loud, horns, i, left, e)
			}
		}
	})
	if decided < 100 || open < 50 {
		t.Error("too few fogs of a kind to show anything", decided, open)
	}
}

// P5.7: reports that clash are not agreed, but all of them save any one are.
func TestClashIsAgree(t *testing.T) {
	var clashes int
	forMany(t, 600, func(_ *rand.Rand, f fog.Fog) {
		for c := range f.Carts {
			clash, e := fog.Clash(f, c)
			n, g := fog.Count(f, c)
			if (e == api.ErrNone) != (n > 0) || g != api.OK {
				t.Error(f, c, clash, n, e, g)
			}
			if e != api.OK {
				continue
			}
			clashes++
			if is, e := fog.Agree(f, c, clash); is || e != api.OK {
				t.Error(f, c, clash, is, e)
			}
			for i := range clash {
				if is, e := fog.Agree(f, c, without(clash, i)); !is || e != api.OK {
					t.Error(f, c, clash, i, is, e)
				}
			}
		}
	})
	if clashes < 100 {
		t.Error("too few clashes to show anything", clashes)
	}
}

// P5.7: without reports carts that can have met can have met in each later minute, and can be where they started in each one.
func TestWithoutReports(t *testing.T) {
	var later int
	forMany(t, 1000, func(_ *rand.Rand, f fog.Fog) {
		for c := range f.Carts {
			f.Carts[c].Reports = nil
			for minute := range last(f) + 1 {
				if places, e := fog.At(f, c, minute); !hasAll(places, f.Carts[c].Start) || e != api.OK {
					t.Error(f, c, minute, places, e)
				}
			}
		}
		met, e := fog.Met(f, 0, len(f.Carts)-1)
		if e != api.OK || len(met) > 0 && met[len(met)-1] != last(f) {
			t.Error(f, met, e)
		}
		for i, minute := range met {
			if i > 0 && minute != met[i-1]+1 {
				t.Error(f, met)
			}
		}
		if len(met) > 0 && met[0] > 0 {
			later++
		}
	})
	if later < 20 {
		t.Error("too few carts that meet later to show anything", later)
	}
}

// P5.7: a louder blast is heard at no fewer places.
func TestLouder(t *testing.T) {
	forMany(t, 200, func(_ *rand.Rand, f fog.Fog) {
		for b := range f.Blasts {
			var before []int
			for loud := range 8 {
				f.Blasts[b].Loud = loud
				places, e := fog.Hears(f, b)
				if !hasAll(places, before) || !slices.Contains(places, f.Blasts[b].Place) || e != api.OK {
					t.Error(f, b, places, before, e)
				}
				before = places
			}
		}
	})
}

// P0.1: no function panics, whatever its arguments are, and all end.
func TestAnyArguments(t *testing.T) {
	some := append(farNumbers(), 0, 1, -1, 2, 3, 4, 5, 7, 8, 9, 10, 15)
	r := rand.New(rand.NewSource(7))
	pick := func() int { return some[r.Intn(len(some))] }
	for range 3000 {
		f := fog.Fog{Sands: fog.Sands{Places: pick(), Minutes: pick()}, Carts: []fog.Cart{cart(list(pick()))}}
		if r.Intn(2) == 0 {
			f = anyFog(r)
		}
		for range r.Intn(2) {
			f.Sands.Tracks = append(f.Sands.Tracks, [2]int{pick(), pick()})
		}
		for range r.Intn(2) {
			f.Blasts = append(f.Blasts, blast(pick(), pick(), pick()))
		}
		for range r.Intn(2) {
			f.Carts = append(f.Carts, cart(list(pick(), pick()), yes(pick())))
		}
		want := fog.Check(f)
		for _, c := range calls(pick()) {
			if isZero, e := c.ask(f); e != api.OK && !isZero || want != api.OK && e != want {
				t.Error(c.name, f, isZero, e)
			}
		}
	}
}

// P0.1: all functions end, and have answers, for fogs that are as large as can be.
func TestWidest(t *testing.T) {
	for n := range 3 {
		for _, c := range calls(n) {
			_, e := c.ask(widest())
			want := api.OK
			switch c.name {
			case "With", "Agree":
				want = api.ErrAgain
			case "Clash":
				want = api.ErrNone
			case "Decide":
				want = []api.Errno{api.OK, api.ErrNone, api.ErrNone}[n]
			}
			if e != want {
				t.Error(n, c.name, e)
			}
		}
	}
	open := widest()
	open.Carts[0].Reports = nil
	if n, e := fog.Count(open, 0); n != roads(open) || e != api.OK {
		t.Error(n, e)
	}
}

// roads counts all walks minute by minute, by how many of them end at each place.
func roads(f fog.Fog) int {
	o := slow{f}
	ends := make([]int, f.Sands.Places)
	for _, place := range f.Carts[0].Start {
		ends[place] = 1
	}
	for range last(f) {
		then := make([]int, f.Sands.Places)
		for place := range then {
			for _, from := range o.around(list(place)) {
				then[place] += ends[from]
			}
		}
		ends = then
	}
	sum := 0
	for _, n := range ends {
		sum += n
	}
	return sum
}

// fogs are some that have answers of all kinds.
func fogs() []fog.Fog {
	return []fog.Fog{row(), seen(), none(), row(no(0)), cut(), cut(yes(0), no(3)), followed(cut(no(1)), cart(list(1), yes(0), no(2))), three()}
}

// everything returns all results for a fog, so that they can be held against others.
func everything(f fog.Fog, walk, reports []int, choice [][2]int) []any {
	out := []any{fog.Check(f)}
	keep := func(results ...any) {
		for _, x := range results {
			if v := reflect.ValueOf(x); v.Kind() == reflect.Slice && v.Len() == 0 {
				x = nil
			}
			out = append(out, x)
		}
	}
	for _, n := range list(0, 1, 2) {
		far, e := fog.Far(f, n, 3-n)
		keep(far, e)
		places, e := fog.Hears(f, n)
		keep(places, e)
		still, e := fog.Still(f, n)
		keep(still, e)
		clash, e := fog.Clash(f, n)
		keep(clash, e)
		is, e := fog.Fits(f, n, walk)
		keep(is, e)
		many, e := fog.Count(f, n)
		keep(many, e)
		is, e = fog.Agree(f, n, reports)
		keep(is, e)
		for _, other := range list(0, 1) {
			minutes, e := fog.Met(f, n, other)
			keep(minutes, e)
			always, never, e := fog.Heard(f, n, other)
			keep(always, never, e)
			places, e := fog.At(f, n, other)
			keep(places, e)
			some, e := fog.Walk(f, n, other, 1)
			keep(some, e)
			apart, e := fog.Apart(f, n, other, choice)
			keep(apart, e)
			twins, e := fog.Twins(f, n, other, 1)
			keep(twins, e)
			decide, e := fog.Decide(f, n, other, 0)
			keep(decide, e)
			place, most, e := fog.Ask(f, n, other, 0)
			keep(place, most, e)
			more, e := fog.With(f, n, no(other))
			keep(more.Sands.Places, more.Sands.Minutes, more.Sands.Tracks, more.Blasts, e)
			for _, c := range more.Carts {
				keep(c.Start, c.Reports)
			}
		}
	}
	return out
}

// R4, R5: arguments come back unchanged, and the same question has the same answer again.
func TestArgumentsUnchanged(t *testing.T) {
	for i, f := range fogs() {
		same := copied(f)
		walk, reports, choice := list(1, 2, 3), list(1, 0), pairs([2]int{3, 1}, [2]int{0, 0})
		before := everything(f, walk, reports, choice)
		if after := everything(f, walk, reports, choice); !reflect.DeepEqual(before, after) {
			t.Error(i, before, after)
		}
		if !sameFog(f, same) || !slices.Equal(walk, list(1, 2, 3)) || !slices.Equal(reports, list(1, 0)) || !slices.Equal(choice, pairs([2]int{3, 1}, [2]int{0, 0})) {
			t.Error(i, f, walk, reports, choice)
		}
	}
}

// roomy returns a copy of a list with marks in the room behind it, and whether they are all there still.
func roomy[T comparable](l []T, mark T) ([]T, func() bool) {
	long := append(slices.Clone(l), mark, mark, mark)
	return long[:len(l)], func() bool {
		return !slices.ContainsFunc(long[len(l):], func(x T) bool { return x != mark })
	}
}

// R4: a list that has room behind it is not written to.
func TestRoomUnchanged(t *testing.T) {
	f := seen()
	var kept [9]func() bool
	f.Sands.Tracks, kept[0] = roomy(f.Sands.Tracks, [2]int{77, 77})
	f.Blasts, kept[1] = roomy(f.Blasts, blast(77, 77, 77))
	f.Carts[1].Reports = nil
	for i := range f.Carts {
		f.Carts[i].Start, kept[2+i] = roomy(f.Carts[i].Start, 77)
		f.Carts[i].Reports, kept[4+i] = roomy(f.Carts[i].Reports, no(77))
	}
	var walk, reports []int
	var choice [][2]int
	walk, kept[6] = roomy(list(1, 2, 3), 77)
	reports, kept[7] = roomy(list(1, 0), 77)
	choice, kept[8] = roomy(pairs([2]int{0, 1}), [2]int{77, 77})
	carts := append(slices.Clone(f.Carts), fog.Cart{})
	f.Carts = carts[:2]
	everything(f, walk, reports, choice)
	everything(f, walk[:2], reports[:1], choice[:0])
	for i, is := range kept {
		if !is() {
			t.Error(i)
		}
	}
	if c := carts[2]; c.Start != nil || c.Reports != nil {
		t.Error(c)
	}
}

// spoil overwrites a list, and the room behind it.
func spoil[T any](l []T, x T) {
	l = l[:cap(l)]
	for i := range l {
		l[i] = x
	}
}

// spoilFog overwrites a fog, each list of which must have memory of its own.
func spoilFog(t *testing.T, f fog.Fog) {
	t.Helper()
	spoil(f.Sands.Tracks, [2]int{77, 77})
	spoil(f.Blasts, blast(77, 77, 77))
	for i, c := range f.Carts {
		if slices.Contains(c.Start, 77) || slices.Contains(c.Reports, no(77)) {
			t.Error("two lists of a fog share memory", i)
		}
		spoil(c.Start, 77)
		spoil(c.Reports, no(77))
	}
	spoil(f.Carts, fog.Cart{})
}

// R4: results share no memory with arguments, with each other, or with later results.
func TestResultsApart(t *testing.T) {
	for i, f := range fogs() {
		f = followed(f, f.Carts[0]) // carts that share their lists
		same := copied(f)
		want := everything(same, nil, list(0), nil)
		for b := range f.Blasts {
			more, _ := fog.With(f, 0, yes(b))
			spoilFog(t, more)
			places, _ := fog.Hears(f, b)
			spoil(places, 77)
		}
		for minute := range last(f) + 1 {
			places, _ := fog.At(f, 0, minute)
			walk, _ := fog.Walk(f, 0, minute, 1)
			decide, _ := fog.Decide(f, 0, minute, 0)
			met, _ := fog.Met(f, 0, 0)
			clash, _ := fog.Clash(f, 0)
			for _, l := range [][]int{places, walk, decide, met, clash} {
				spoil(l, 77)
			}
			choice := pairs([2]int{0, 7})
			apart, _ := fog.Apart(f, 0, minute, choice)
			twins, _ := fog.Twins(f, 0, minute, 2)
			spoil(apart, [2]int{77, 77})
			spoil(twins, [2]int{77, 77})
			if choice[0] != [2]int{0, 7} {
				t.Error(i, choice)
			}
		}
		if !sameFog(f, same) || !reflect.DeepEqual(everything(f, nil, list(0), nil), want) {
			t.Error(i, f)
		}
	}
}

// R3: nil lists and empty ones are the same.
func TestEmptyLists(t *testing.T) {
	a := fog.Fog{Sands: fog.Sands{Places: 3, Minutes: 2}, Carts: []fog.Cart{cart(list(0, 2)), cart(list(1))}}
	b := fog.Fog{Sands: fog.Sands{Places: 3, Minutes: 2, Tracks: pairs()}, Blasts: []fog.Blast{}}
	b.Carts = []fog.Cart{{Start: list(0, 2), Reports: []fog.Report{}}, {Start: list(1), Reports: []fog.Report{}}}
	if x, y := everything(a, nil, nil, nil), everything(b, list(), list(), pairs()); !reflect.DeepEqual(x, y) {
		t.Error(x, y)
	}
	for _, f := range []fog.Fog{a, b} {
		if n, e := fog.Count(f, 0); n != 2 || e != api.OK {
			t.Error(n, e)
		}
		if is, e := fog.Agree(f, 1, list()); !is || e != api.OK {
			t.Error(is, e)
		}
	}
}
