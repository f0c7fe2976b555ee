package sack_test

import (
	"math"
	"math/rand"
	"reflect"
	"slices"
	"testing"

	"laurel/api"
	"laurel/sack"
)

// five is the load of the chapter's example 2, with pairs that are apart, and together.
func five(apart, with [][2]int) sack.Load {
	return sack.Load{Bears: 50, Shrink: 10, Sacks: []sack.Sack{of(30, 0), of(20, 1), of(25, 0), of(20, 2), of(10, 1)}, Apart: apart, With: with}
}

// paired is that load with one pair of each kind.
func paired() sack.Load { return five(pairs([2]int{0, 2}), pairs([2]int{1, 3})) }

// dry makes a load of sacks that do not shrink, all of owner 0.
func dry(bears int, measures ...int) sack.Load {
	l := sack.Load{Bears: bears}
	for _, n := range measures {
		l.Sacks = append(l.Sacks, of(n, 0))
	}
	return l
}

// owned makes a load of one sack for each owner who is given a part.
func owned(parts ...int) sack.Load {
	l := sack.Load{Bears: 100}
	for owner, n := range parts {
		if n > 0 {
			l.Sacks = append(l.Sacks, of(n, owner))
		}
	}
	return l
}

// widest is as large as loads can be: each sack is apart from the next one, and the sacks 6 and 8 are together.
func widest() sack.Load {
	l := dry(100, 100, 99, 98, 50, 49, 51, 20, 30, 50)
	for i := range 8 {
		l.Sacks[i].Owner = i % 6
		l.Apart = append(l.Apart, [2]int{i + 1, i})
		l.With = append(l.With, [2]int{6, 8})
	}
	return l
}

func of(measures, owner int) sack.Sack { return sack.Sack{Measures: measures, Owner: owner} }
func list(n ...int) []int              { return n }
func pairs(p ...[2]int) [][2]int       { return p }
func ratio(num, den int) api.Ratio     { return api.Ratio{Num: num, Den: den} }
func farNumbers() []int                { return list(math.MaxInt, math.MinInt, math.MaxInt-1, math.MaxInt32) }
func outside(least, most int) []int    { return append(farNumbers(), least-1, most+1, least-9, most+9) }
func someOf(least, most int) []int     { return append(outside(least, most), least, most) }
func isIn(n, least, most int) bool     { return least <= n && n <= most }

func bearing(l sack.Load, bears int) sack.Load { l.Bears = bears; return l }

// sumOf adds the numbers of a list.
func sumOf(l []int) int {
	sum := 0
	for _, n := range l {
		sum += n
	}
	return sum
}

// copied returns a load that shares no memory with another one.
func copied(l sack.Load) sack.Load {
	l.Sacks, l.Apart, l.With = slices.Clone(l.Sacks), slices.Clone(l.Apart), slices.Clone(l.With)
	return l
}

func sameLoad(a, b sack.Load) bool {
	return a.Bears == b.Bears && a.Shrink == b.Shrink && slices.Equal(a.Sacks, b.Sacks) && slices.Equal(a.Apart, b.Apart) && slices.Equal(a.With, b.With)
}

func sameLists(a, b [][]int) bool { return slices.EqualFunc(a, b, slices.Equal) }

// zero reports whether all results are zero; an empty list is as good as nil.
func zero(results ...any) bool {
	for _, x := range results {
		if v := reflect.ValueOf(x); !v.IsZero() && (v.Kind() != reflect.Slice || v.Len() > 0) {
			return false
		}
	}
	return true
}

// anyPairs returns some pairs of two different sacks of so many, which are at least two.
func anyPairs(r *rand.Rand, sacks, many int) [][2]int {
	var out [][2]int
	for range many {
		p := r.Perm(sacks)
		out = append(out, [2]int{p[0], p[1]})
	}
	return out
}

// anyLoad returns a small load, the bundles of which can go as a rule.
func anyLoad(r *rand.Rand) sack.Load {
	l := sack.Load{Bears: 8 + r.Intn(40), Shrink: r.Intn(3) * r.Intn(31)}
	most := 3 + r.Intn(l.Bears)
	for range r.Intn(7) {
		l.Sacks = append(l.Sacks, of(1+r.Intn(most), r.Intn(1+r.Intn(6))))
	}
	if len(l.Sacks) > 1 {
		l.Apart = anyPairs(r, len(l.Sacks), r.Intn(3)*r.Intn(2))
		l.With = anyPairs(r, len(l.Sacks), r.Intn(3)*r.Intn(2))
	}
	return l
}

// anyPrices returns prices of all sacks of a load, many of which are right.
func anyPrices(r *rand.Rand, l sack.Load) sack.Prices {
	p := sack.Prices{Unit: 1 + r.Intn(20)}
	most := 1 + r.Intn(p.Unit)
	for range l.Sacks {
		p.Sacks = append(p.Sacks, r.Intn(most+1))
	}
	if r.Intn(3) == 0 {
		p = sack.Prices{Unit: l.Bears, Sacks: slow{l}.weights()}
	}
	return p
}

// forMany asks something of many loads.
func forMany(t *testing.T, times int, ask func(r *rand.Rand, l sack.Load)) {
	t.Helper()
	r := rand.New(rand.NewSource(6))
	for range times {
		ask(r, anyLoad(r))
		if t.Failed() {
			return
		}
	}
}

// call is a function, asked with some arguments of its own.
type call struct {
	name string
	ask  func(l sack.Load) (isZero bool, e api.Errno)
}

// calls returns all functions of a load but Check; their own arguments are a number n for all that they ask, and lists of it.
func calls(n int) []call {
	all := slices.Repeat(list(n), 6)
	p := func(l sack.Load) sack.Prices {
		return sack.Prices{Unit: n, Sacks: slices.Repeat(list(n), len(l.Sacks))}
	}
	return []call{
		{"Weights", func(l sack.Load) (bool, api.Errno) { a, e := sack.Weights(l); return zero(a), e }},
		{"Bundles", func(l sack.Load) (bool, api.Errno) { a, e := sack.Bundles(l); return zero(a), e }},
		{"Stuck", func(l sack.Load) (bool, api.Errno) { a, e := sack.Stuck(l); return zero(a), e }},
		{"Right", func(l sack.Load) (bool, api.Errno) { a, e := sack.Right(l, all); return zero(a), e }},
		{"Loaded", func(l sack.Load) (bool, api.Errno) { a, e := sack.Loaded(l, p(l).Sacks); return zero(a), e }},
		{"Fewest", func(l sack.Load) (bool, api.Errno) { a, b, e := sack.Fewest(l); return zero(a, b), e }},
		{"Fair", func(l sack.Load) (bool, api.Errno) { a, e := sack.Fair(l, p(l)); return zero(a), e }},
		{"Proves", func(l sack.Load) (bool, api.Errno) { a, e := sack.Proves(l, p(l)); return zero(a), e }},
		{"Best", func(l sack.Load) (bool, api.Errno) { a, b, e := sack.Best(l, n); return zero(a, b), e }},
		{"Bigger", func(l sack.Load) (bool, api.Errno) { a, e := sack.Bigger(l, n); return zero(a), e }},
		{"Parts", func(l sack.Load) (bool, api.Errno) { a, e := sack.Parts(l); return zero(a), e }},
		{"Share", func(l sack.Load) (bool, api.Errno) { a, e := sack.Share(l, n); return zero(a), e }},
		{"Divides", func(l sack.Load) (bool, api.Errno) { a, e := sack.Divides(l, all, ratio(n, n)); return zero(a), e }},
		{"Divisor", func(l sack.Load) (bool, api.Errno) { a, e := sack.Divisor(l, all); return zero(a), e }},
		{"Owed", func(l sack.Load) (bool, api.Errno) { a, e := sack.Owed(l, all, n); return zero(a), e }},
	}
}
