package shut_test

import (
	"math"
	"math/rand"
	"reflect"
	"slices"
	"testing"

	"laurel/api"
	"laurel/shut"
)

// three is the shore of the chapter's examples, with some tests.
func three(tests ...shut.Test) shut.Shore {
	return shut.Shore{
		Beds: 3, Tides: 6,
		Drains: []shut.Drain{drain(4, 3, 0, 1), drain(7, 2, 2)},
		Rains:  []shut.Rain{rain(1, 2, 6)},
		Sacks:  []shut.Sack{sack(2, 3, 0), sack(3, 3, 1, 2), sack(3, 5, 0), sack(1, 1, 2)},
		Tests:  tests,
	}
}

// wet is a shore with two rains, both of which close bed 1 at tide 2, by drains that close it at other tides, too.
func wet(tests ...shut.Test) shut.Shore {
	return shut.Shore{
		Beds: 3, Tides: 5,
		Drains: []shut.Drain{drain(3, 3, 0, 1), drain(5, 1, 1, 2), drain(9, 12, 0)},
		Rains:  []shut.Rain{rain(0, 1, 6), rain(2, 4, 5)},
		Sacks:  []shut.Sack{sack(0, 2, 1), sack(2, 2, 0, 2), sack(4, 4, 0, 1), sack(0, 1, 2)},
		Tests:  tests,
	}
}

// gap is a shore where falls that fit do not follow one another, if sack 0 is foul and sack 1 is clean.
func gap(tests ...shut.Test) shut.Shore {
	return shut.Shore{
		Beds: 2, Tides: 2,
		Drains: []shut.Drain{drain(5, 1, 0), drain(3, 1, 1)},
		Rains:  []shut.Rain{rain(0, 0, 9), rain(1, 0, 9)},
		Sacks:  []shut.Sack{sack(0, 1, 0), sack(0, 1, 1)},
		Tests:  tests,
	}
}

// none is the shore of the examples with tests that no truth fits.
func none() shut.Shore { return three(clean(0), foul(1)) }

// dry is a shore without drains, rains, sacks and tests.
func dry() shut.Shore { return shut.Shore{Beds: 2, Tides: 3} }

// widest is as large as shores can be: rains that all drains make count otherwise, and sacks from anywhere.
func widest(tests ...shut.Test) shut.Shore {
	s := shut.Shore{Beds: 6, Tides: 12, Tests: tests}
	for i := range 4 {
		s.Drains = append(s.Drains, drain(2+2*i, 3*i+1, list(0, 1, 2, 3, 4, 5)[:6-i]...))
		s.Rains = append(s.Rains, rain(3*i, 0, 9))
	}
	for range 6 {
		s.Sacks = append(s.Sacks, sack(0, 11, 0, 1, 2, 3, 4, 5))
	}
	return s
}

func drain(needs, shuts int, beds ...int) shut.Drain {
	return shut.Drain{Beds: beds, Needs: needs, Shuts: shuts}
}
func rain(tide, lo, hi int) shut.Rain                { return shut.Rain{Tide: tide, Fall: span(lo, hi)} }
func sack(lo, hi int, beds ...int) shut.Sack         { return shut.Sack{Beds: beds, Tides: span(lo, hi)} }
func clean(sack int) shut.Test                       { return shut.Test{Sack: sack} }
func foul(sack int) shut.Test                        { return shut.Test{Sack: sack, Foul: true} }
func span(lo, hi int) api.Span                       { return api.Span{Lo: lo, Hi: hi} }
func list(n ...int) []int                            { return n }
func bars(b ...shut.Bar) []shut.Bar                  { return b }
func bar(rain, drain int) shut.Bar                   { return shut.Bar{Rain: rain, Drain: drain} }
func at(bed, tide int) shut.Origin                   { return shut.Origin{Bed: bed, Tide: tide} }
func origins(o ...shut.Origin) []shut.Origin         { return o }
func states(s ...shut.State) []shut.State            { return s }
func farNumbers() []int                              { return list(math.MaxInt, math.MinInt, math.MaxInt-1, math.MaxInt32) }
func outside(least, most int) []int                  { return append(farNumbers(), least-1, most+1, least-9, most+99) }
func someOf(least, most int) []int                   { return append(outside(least, most), least, most) }
func isIn(n, least, most int) bool                   { return least <= n && n <= most }
func without(l []int, i int) []int                   { return slices.Delete(slices.Clone(l), i, i+1) }
func hasAll[T comparable](all, some []T) bool        { return len(common(all, some)) == len(some) }
func sacksOf(s shut.Shore) []int                     { return upto(len(s.Sacks)) }
func truth(falls []int, o ...shut.Origin) shut.Truth { return shut.Truth{Falls: falls, From: o} }

// upto returns the numbers below another one.
func upto(below int) []int {
	var out []int
	for n := range below {
		out = append(out, n)
	}
	return out
}

// common returns the elements of a list that another one has, too.
func common[T comparable](l, other []T) []T {
	var out []T
	for _, x := range l {
		if slices.Contains(other, x) {
			out = append(out, x)
		}
	}
	return out
}

// tested returns a shore with tests more, whether they are allowed or not.
func tested(s shut.Shore, tests ...shut.Test) shut.Shore {
	s = copied(s)
	s.Tests = append(s.Tests, tests...)
	return s
}

// rained returns a shore with rains instead of its own.
func rained(s shut.Shore, rains ...shut.Rain) shut.Shore {
	s = copied(s)
	s.Rains = rains
	return s
}

// drained returns a shore with drains instead of its own.
func drained(s shut.Shore, drains ...shut.Drain) shut.Shore {
	s = copied(s)
	s.Drains = drains
	return s
}

// copied returns a shore that shares no memory with another one.
func copied(s shut.Shore) shut.Shore {
	s.Drains, s.Rains, s.Sacks, s.Tests = slices.Clone(s.Drains), slices.Clone(s.Rains), slices.Clone(s.Sacks), slices.Clone(s.Tests)
	for i := range s.Drains {
		s.Drains[i].Beds = slices.Clone(s.Drains[i].Beds)
	}
	for i := range s.Sacks {
		s.Sacks[i].Beds = slices.Clone(s.Sacks[i].Beds)
	}
	return s
}

// sameShore reports whether two shores are the same; nil lists are as good as empty ones.
func sameShore(a, b shut.Shore) bool {
	sameDrain := func(a, b shut.Drain) bool {
		return slices.Equal(a.Beds, b.Beds) && a.Needs == b.Needs && a.Shuts == b.Shuts
	}
	sameSack := func(a, b shut.Sack) bool { return slices.Equal(a.Beds, b.Beds) && a.Tides == b.Tides }
	return a.Beds == b.Beds && a.Tides == b.Tides && slices.EqualFunc(a.Drains, b.Drains, sameDrain) &&
		slices.Equal(a.Rains, b.Rains) && slices.EqualFunc(a.Sacks, b.Sacks, sameSack) && slices.Equal(a.Tests, b.Tests)
}

// zero reports whether all results are zero; an empty list is as good as nil.
func zero(results ...any) bool {
	for _, x := range results {
		switch y := x.(type) {
		case shut.Shore:
			x = sameShore(y, shut.Shore{})
		case shut.Truth:
			x = len(y.Falls) == 0 && len(y.From) == 0
		default:
			v := reflect.ValueOf(x)
			x = v.IsZero() || v.Kind() == reflect.Slice && v.Len() == 0
		}
		if x != true {
			return false
		}
	}
	return true
}

// someBeds returns some beds of a shore, in increasing order.
func someBeds(r *rand.Rand, s shut.Shore, least, most int) []int {
	beds := r.Perm(s.Beds)[:min(s.Beds, least+r.Intn(most-least+1))]
	slices.Sort(beds)
	return beds
}

// anyShore returns a small shore, most of whose tests some truth agrees with.
func anyShore(r *rand.Rand) shut.Shore {
	s := shut.Shore{Beds: 1 + r.Intn(4), Tides: 1 + r.Intn(3)}
	least := 2
	if r.Intn(12) == 0 {
		least = 0
	}
	for range least + r.Intn(5-least) {
		s.Drains = append(s.Drains, drain(2+r.Intn(7), 1+r.Intn(4), someBeds(r, s, least/2, 2)...))
	}
	for range least/2 + r.Intn(3-least/2) {
		lo := r.Intn(6)
		s.Rains = append(s.Rains, rain(r.Intn(s.Tides), lo, min(9, lo+r.Intn(8))))
	}
	for range least + r.Intn(5-least) {
		lo := r.Intn(s.Tides)
		s.Sacks = append(s.Sacks, sack(lo, min(s.Tides-1, lo+r.Intn(2)), someBeds(r, s, 1, 2)...))
	}
	if len(s.Sacks) == 0 {
		return s
	}
	o := slow{s}
	t := o.truth(r)
	wrong := r.Intn(3)
	for _, k := range r.Perm(len(s.Sacks))[:r.Intn(len(s.Sacks)+1)] {
		s.Tests = append(s.Tests, shut.Test{Sack: k, Foul: o.isFoul(t, k) != (r.Intn(6) < wrong)})
	}
	return s
}

// forMany asks something of many shores.
func forMany(t *testing.T, times int, ask func(r *rand.Rand, s shut.Shore)) {
	t.Helper()
	r := rand.New(rand.NewSource(7))
	for range times {
		ask(r, anyShore(r))
		if t.Failed() {
			return
		}
	}
}

// call is a function, asked with some arguments of its own.
type call struct {
	name string
	ask  func(s shut.Shore) (isZero bool, e api.Errno)
}

// calls returns all functions but Check; their own arguments are a number n for all that they ask, and lists of it.
func calls(n int) []call {
	some := truth(list(n), at(n, n))
	return []call{
		{"Bars", func(s shut.Shore) (bool, api.Errno) { a, e := shut.Bars(s, n, n); return zero(a), e }},
		{"Count", func(s shut.Shore) (bool, api.Errno) { a, e := shut.Count(s); return zero(a), e }},
		{"Agrees", func(s shut.Shore) (bool, api.Errno) { a, e := shut.Agrees(s, some); return zero(a), e }},
		{"FoulIn", func(s shut.Shore) (bool, api.Errno) { a, e := shut.FoulIn(s, some); return zero(a), e }},
		{"Falls", func(s shut.Shore) (bool, api.Errno) { a, e := shut.Falls(s, n); return zero(a), e }},
		{"Bed", func(s shut.Shore) (bool, api.Errno) { a, e := shut.Bed(s, n, n); return zero(a), e }},
		{"Tides", func(s shut.Shore) (bool, api.Errno) { a, e := shut.Tides(s, n); return zero(a), e }},
		{"From", func(s shut.Shore) (bool, api.Errno) { a, e := shut.From(s, n); return zero(a), e }},
		{"States", func(s shut.Shore) (bool, api.Errno) { a, e := shut.States(s); return zero(a), e }},
		{"Sold", func(s shut.Shore) (bool, api.Errno) { a, e := shut.Sold(s); return zero(a), e }},
		{"Shows", func(s shut.Shore) (bool, api.Errno) { a, e := shut.Shows(s, n, n%2 == 0); return zero(a), e }},
		{"With", func(s shut.Shore) (bool, api.Errno) { a, e := shut.With(s, foul(n)); return zero(a), e }},
		{"Agree", func(s shut.Shore) (bool, api.Errno) { a, e := shut.Agree(s, list(n)); return zero(a), e }},
		{"Clash", func(s shut.Shore) (bool, api.Errno) { a, e := shut.Clash(s); return zero(a), e }},
		{"Clears", func(s shut.Shore) (bool, api.Errno) { a, e := shut.Clears(s, list(n), list(n)); return zero(a), e }},
		{"Fewest", func(s shut.Shore) (bool, api.Errno) { a, e := shut.Fewest(s, list(n)); return zero(a), e }},
	}
}
