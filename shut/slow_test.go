package shut_test

import (
	"math/rand"
	"slices"

	"laurel/shut"
)

// slow answers from the chapter's terms, word for word.
type slow struct{ shut.Shore }

// closes reports whether a rain with a fall closes a bed at a tide, by a drain.
func (o slow) closes(r shut.Rain, fall int, d shut.Drain, x shut.Origin) bool {
	for n := range d.Shuts {
		if slices.Contains(d.Beds, x.Bed) && fall >= d.Needs && x.Tide == r.Tide+n {
			return true
		}
	}
	return false
}

// bars returns the rains and drains that close a bed at a tide if as much falls as can.
func (o slow) bars(x shut.Origin) []shut.Bar {
	var out []shut.Bar
	for i, r := range o.Rains {
		for k, d := range o.Drains {
			if o.closes(r, shut.MaxFall, d, x) {
				out = append(out, bar(i, k))
			}
		}
	}
	return out
}

// isClosed reports whether a bed is closed at a tide in a truth.
func (o slow) isClosed(t shut.Truth, x shut.Origin) bool {
	for i, r := range o.Rains {
		for _, d := range o.Drains {
			if o.closes(r, t.Falls[i], d, x) {
				return true
			}
		}
	}
	return false
}

func (o slow) isFoul(t shut.Truth, sack int) bool { return o.isClosed(t, t.From[sack]) }

// foulIn returns the sacks that are foul in a truth.
func (o slow) foulIn(t shut.Truth) []int {
	return slices.DeleteFunc(sacksOf(o.Shore), func(sack int) bool { return !o.isFoul(t, sack) })
}

// dug returns all origins of a sack.
func (o slow) dug(sack int) []shut.Origin {
	var out []shut.Origin
	for _, bed := range o.Sacks[sack].Beds {
		for tide := o.Sacks[sack].Tides.Lo; tide <= o.Sacks[sack].Tides.Hi; tide++ {
			out = append(out, at(bed, tide))
		}
	}
	return out
}

// truths returns all truths, whether they fit or not.
func (o slow) truths() []shut.Truth {
	out := []shut.Truth{{}}
	for _, r := range o.Rains {
		var more []shut.Truth
		for _, t := range out {
			for fall := r.Fall.Lo; fall <= r.Fall.Hi; fall++ {
				more = append(more, shut.Truth{Falls: append(slices.Clone(t.Falls), fall)})
			}
		}
		out = more
	}
	for sack := range o.Sacks {
		var more []shut.Truth
		for _, t := range out {
			for _, x := range o.dug(sack) {
				more = append(more, shut.Truth{Falls: t.Falls, From: append(slices.Clone(t.From), x)})
			}
		}
		out = more
	}
	return out
}

// truth returns any truth, whether it fits or not.
func (o slow) truth(r *rand.Rand) shut.Truth {
	var t shut.Truth
	for _, x := range o.Rains {
		t.Falls = append(t.Falls, x.Fall.Lo+r.Intn(x.Fall.Hi-x.Fall.Lo+1))
	}
	for sack := range o.Sacks {
		dug := o.dug(sack)
		t.From = append(t.From, dug[r.Intn(len(dug))])
	}
	return t
}

// agrees reports whether a truth agrees with listed tests.
func (o slow) agrees(t shut.Truth, tests []int) bool {
	return !slices.ContainsFunc(tests, func(i int) bool { return o.isFoul(t, o.Tests[i].Sack) != o.Tests[i].Foul })
}

// fitting returns all truths that fit.
func (o slow) fitting() []shut.Truth {
	tests := upto(len(o.Tests))
	return slices.DeleteFunc(o.truths(), func(t shut.Truth) bool { return !o.agrees(t, tests) })
}

// agreed returns a function that reports whether listed tests are agreed.
func (o slow) agreed() func(tests []int) bool {
	truths := o.truths()
	return func(tests []int) bool {
		return slices.ContainsFunc(truths, func(t shut.Truth) bool { return o.agrees(t, tests) })
	}
}

// state returns that of what is foul in some truths.
func state(truths []shut.Truth, isFoul func(t shut.Truth) bool) shut.State {
	some := slices.ContainsFunc(truths, isFoul)
	all := !slices.ContainsFunc(truths, func(t shut.Truth) bool { return !isFoul(t) })
	switch {
	case !some:
		return shut.Clean
	case all:
		return shut.Foul
	}
	return shut.Open
}

// sack returns the state of a sack.
func (o slow) sack(truths []shut.Truth, sack int) shut.State {
	return state(truths, func(t shut.Truth) bool { return o.isFoul(t, sack) })
}

// bed returns the state of a bed at a tide.
func (o slow) bed(truths []shut.Truth, x shut.Origin) shut.State {
	return state(truths, func(t shut.Truth) bool { return o.isClosed(t, x) })
}

// clears reports whether sacks clear others in the truths that fit.
func (o slow) clears(fitting []shut.Truth, sacks, others []int) bool {
	found := false
	for _, t := range fitting {
		foul := o.foulIn(t)
		if len(common(sacks, foul)) > 0 {
			continue
		}
		found = true
		if len(common(others, foul)) > 0 {
			return false
		}
	}
	return found
}

// first returns of all lists of numbers below another one that are something the first one of the shortest ones, and whether there is one.
func first(below int, are func(l []int) bool) ([]int, bool) {
	var all [][]int
	for set := range 1 << below {
		var l []int
		for i := range below {
			if set>>i%2 == 1 {
				l = append(l, i)
			}
		}
		if are(l) {
			all = append(all, l)
		}
	}
	if len(all) == 0 {
		return nil, false
	}
	return slices.MinFunc(all, func(a, b []int) int {
		if len(a) != len(b) {
			return len(a) - len(b)
		}
		return slices.Compare(a, b)
	}), true
}
