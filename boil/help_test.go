package boil_test

import (
	"math"
	"math/rand"
	"reflect"
	"slices"
	"testing"

	"laurel/api"
	"laurel/boil"
)

// four is the house of the chapter's examples 1 to 3.
func four() boil.House {
	return house(5, 2, weighed(0, 100, 100, 10, 12), weighed(1, 100, 100, 8, 9), weighed(2, 50, 60, 12, 12), weighed(4, 80, 80, 20, 22))
}

// two is what is left of that house in the examples 4 and 5.
func two() boil.House {
	return house(5, 2, weighed(1, 100, 100, 8, 9), weighed(4, 80, 80, 20, 22))
}

// row is a house of one month, with weighings of 10 measures of shells, and as much meat each.
func row(meat ...int) boil.House {
	h := house(1, 0)
	for _, n := range meat {
		h.Weighings = append(h.Weighings, weighed(0, 10, 10, n, n))
	}
	return h
}

// months is a house with one weighing of each month, of 10 measures of shells, and as much meat each.
func months(peak int, meat ...int) boil.House {
	h := house(len(meat), peak)
	for month, n := range meat {
		h.Weighings = append(h.Weighings, weighed(month, 10, 10, n, n))
	}
	return h
}

// widest is as large as houses can be: weighings of all months, that have less meat the nearer they are to the peak.
func widest() boil.House {
	h := months(6, 900, 800, 700, 600, 500, 400, 1, 410, 510, 610, 710, 810)
	h.Weighings = append(h.Weighings, weighed(0, 1, 1000, 1, 1000), weighed(6, 1000, 1000, 1000, 1000))
	return h
}

// rising is a house whose weighings agree, with and without gaps between them, and with months that no weighing bounds.
func rising() boil.House {
	return house(8, 4, weighed(1, 6, 8, 2, 3), weighed(1, 4, 4, 1, 2), weighed(3, 10, 12, 5, 8), weighed(4, 7, 7, 5, 5), weighed(6, 5, 9, 2, 4))
}

func house(months, peak int, weighings ...boil.Weighing) boil.House {
	return boil.House{Months: months, Peak: peak, Weighings: weighings}
}
func weighed(month, shells, more, meat, most int) boil.Weighing {
	return boil.Weighing{Month: month, Shells: span(shells, more), Meat: span(meat, most)}
}
func span(lo, hi int) api.Span         { return api.Span{Lo: lo, Hi: hi} }
func list(n ...int) []int              { return n }
func ratio(num, den int) api.Ratio     { return api.Ratio{Num: num, Den: den} }
func pair(a, b int) boil.Pair          { return boil.Pair{A: a, B: b} }
func pairs(p ...boil.Pair) []boil.Pair { return p }
func farNumbers() []int                { return list(math.MaxInt, math.MinInt, math.MaxInt-1, math.MaxInt32) }
func outside(least, most int) []int    { return append(farNumbers(), least-1, most+1, least-9, most+9) }
func someOf(least, most int) []int     { return append(outside(least, most), least, most) }
func isIn(n, least, most int) bool     { return least <= n && n <= most }
func byA(p, q boil.Pair) int           { return p.A - q.A }
func isSame(a, b boil.House) bool {
	return a.Months == b.Months && a.Peak == b.Peak && slices.Equal(a.Weighings, b.Weighings)
}

// with returns a house with weighings more.
func with(h boil.House, x ...boil.Weighing) boil.House {
	h.Weighings = slices.Concat(h.Weighings, x)
	return h
}

// ratios makes a list of fractions of their numerators and denominators, in turn.
func ratios(n ...int) []api.Ratio {
	var out []api.Ratio
	for i := 0; i < len(n); i += 2 {
		out = append(out, ratio(n[i], n[i+1]))
	}
	return out
}

// monthsOf returns the months of all weighings.
func monthsOf(h boil.House) []int {
	var out []int
	for _, x := range h.Weighings {
		out = append(out, x.Month)
	}
	return out
}

// upto returns the numbers below another one.
func upto(below int) []int {
	var out []int
	for n := range below {
		out = append(out, n)
	}
	return out
}

// copied returns a house that shares no memory with another one.
func copied(h boil.House) boil.House {
	h.Weighings = slices.Clone(h.Weighings)
	return h
}

// zero reports whether all results are zero; an empty list is as good as nil.
func zero(results ...any) bool {
	for _, x := range results {
		if h, is := x.(boil.House); is {
			x = !isSame(h, boil.House{})
		}
		if v := reflect.ValueOf(x); !v.IsZero() && (v.Kind() != reflect.Slice || v.Len() > 0) {
			return false
		}
	}
	return true
}

// anyWeighing returns a weighing of some month, which as a rule has more meat the nearer the month is to the peak.
func anyWeighing(r *rand.Rand, h boil.House) boil.Weighing {
	x := boil.Weighing{Month: r.Intn(h.Months)}
	far := max(x.Month-h.Peak, h.Peak-x.Month)
	x.Shells.Lo = 4 + r.Intn(4)
	x.Meat.Lo = max(1, 9-2*far+r.Intn(7)-3)
	if r.Intn(5) == 0 {
		x.Meat.Lo = 1 + r.Intn(14)
	}
	x.Shells.Hi, x.Meat.Hi = x.Shells.Lo+r.Intn(4), x.Meat.Lo+r.Intn(4)
	return x
}

// anyHouse returns a small house, whose weighings agree or not.
func anyHouse(r *rand.Rand) boil.House {
	h := house(1+r.Intn(4), 0)
	h.Peak = r.Intn(h.Months)
	for range r.Intn(6) {
		h.Weighings = append(h.Weighings, anyWeighing(r, h))
	}
	return h
}

// anyLargeHouse returns a house with many weighings, most of which clash with some other one.
func anyLargeHouse(r *rand.Rand) boil.House {
	h := house(1+r.Intn(12), 0)
	h.Peak = r.Intn(h.Months)
	most := 1 + r.Intn(40)
	for range 8 + r.Intn(7) {
		meat := 1 + r.Intn(most)
		h.Weighings = append(h.Weighings, weighed(r.Intn(h.Months), 10, 10+r.Intn(3), meat, meat+r.Intn(1+r.Intn(10))))
	}
	return h
}

// forMany asks something of many houses.
func forMany(t *testing.T, times int, ask func(r *rand.Rand, h boil.House)) {
	t.Helper()
	r := rand.New(rand.NewSource(8))
	for range times {
		ask(r, anyHouse(r))
		if t.Failed() {
			return
		}
	}
}

// forManyLarge asks something of many houses with many weighings.
func forManyLarge(t *testing.T, times int, ask func(r *rand.Rand, h boil.House)) {
	t.Helper()
	r := rand.New(rand.NewSource(8))
	for range times {
		ask(r, anyLargeHouse(r))
		if t.Failed() {
			return
		}
	}
}

// call is a function, asked with some arguments of its own.
type call struct {
	name string
	ask  func(h boil.House) (isZero bool, e api.Errno)
}

// calls returns all functions but Check; their own arguments are a number n for all that they ask, and lists of it.
func calls(n int) []call {
	all := slices.Repeat(ratios(n, n), 5)
	some := pairs(pair(n, n), pair(n, n))
	return []call{
		{"Least", func(h boil.House) (bool, api.Errno) { a, e := boil.Least(h, n); return zero(a), e }},
		{"Greatest", func(h boil.House) (bool, api.Errno) { a, e := boil.Greatest(h, n); return zero(a), e }},
		{"Truth", func(h boil.House) (bool, api.Errno) { a, e := boil.Truth(h, all); return zero(a), e }},
		{"False", func(h boil.House) (bool, api.Errno) { a, e := boil.False(h, all); return zero(a), e }},
		{"Under", func(h boil.House) (bool, api.Errno) { a, e := boil.Under(h, n, n); return zero(a), e }},
		{"Clash", func(h boil.House) (bool, api.Errno) { a, e := boil.Clash(h); return zero(a), e }},
		{"Shown", func(h boil.House) (bool, api.Errno) { a, e := boil.Shown(h); return zero(a), e }},
		{"Bounds", func(h boil.House) (bool, api.Errno) { a, b, e := boil.Bounds(h, n); return zero(a, b), e }},
		{"Fewest", func(h boil.House) (bool, api.Errno) { a, e := boil.Fewest(h); return zero(a), e }},
		{"Proof", func(h boil.House) (bool, api.Errno) { a, e := boil.Proof(h); return zero(a), e }},
		{"Proves", func(h boil.House) (bool, api.Errno) { a, e := boil.Proves(h, some); return zero(a), e }},
		{"Trusted", func(h boil.House) (bool, api.Errno) { a, e := boil.Trusted(h); return zero(a), e }},
		{"Meat", func(h boil.House) (bool, api.Errno) { a, e := boil.Meat(h, n, n); return zero(a), e }},
		{"Kept", func(h boil.House) (bool, api.Errno) { a, e := boil.Kept(h, n, n, n); return zero(a), e }},
		{"Without", func(h boil.House) (bool, api.Errno) { a, e := boil.Without(h, list(n, n)); return zero(a), e }},
	}
}
