package boil_test

import (
	"slices"

	"laurel/api"
	"laurel/boil"
)

// slow answers from the chapter's terms, word for word.
type slow struct{ boil.House }

// the least and the greatest fraction that can be passed in: less, and more, than any weighing is true with.
func smallest() api.Ratio { return ratio(1, boil.MaxNumber) }
func largest() api.Ratio  { return ratio(boil.MaxNumber, 1) }

func inOrder(a, b api.Ratio) int { return a.Num*b.Den - b.Num*a.Den }

// reduced returns a fraction in lowest terms.
func reduced(r api.Ratio) api.Ratio {
	for d := min(r.Num, r.Den); d > 1; d-- {
		if r.Num%d == 0 && r.Den%d == 0 {
			return ratio(r.Num/d, r.Den/d)
		}
	}
	return r
}

// isUnder reports whether a month lies under another one.
func (o slow) isUnder(a, b int) bool {
	upTo := a <= o.Peak && b <= o.Peak
	from := a >= o.Peak && b >= o.Peak
	return upTo && a <= b || from && a >= b
}

// isTrue reports whether some shells, times a ratio, are some meat.
func isTrue(x boil.Weighing, r api.Ratio) bool {
	return x.Shells.Lo*r.Num <= x.Meat.Hi*r.Den && x.Shells.Hi*r.Num >= x.Meat.Lo*r.Den
}

// isTruth reports whether ratios of all months rise up to the peak, and fall behind it.
func (o slow) isTruth(truth []api.Ratio) bool {
	for month := 1; month < len(truth); month++ {
		step := inOrder(truth[month-1], truth[month])
		if month <= o.Peak && step > 0 || month > o.Peak && step < 0 {
			return false
		}
	}
	return true
}

// falseIn returns the weighings that are not true in a truth.
func (o slow) falseIn(truth []api.Ratio) []int {
	var out []int
	for n, x := range o.Weighings {
		if !isTrue(x, truth[x.Month]) {
			out = append(out, n)
		}
	}
	return out
}

// ends returns the least and the greatest ratios of all weighings, in increasing order, with one before and one behind them.
// For each truth there is one of these ratios alone in which the same weighings are true, at least.
func (o slow) ends() []api.Ratio {
	out := []api.Ratio{smallest(), largest()}
	for _, x := range o.Weighings {
		out = append(out, reduced(ratio(x.Meat.Lo, x.Shells.Hi)), reduced(ratio(x.Meat.Hi, x.Shells.Lo)))
	}
	slices.SortFunc(out, inOrder)
	return slices.Compact(out)
}

// truths returns all truths of these ratios.
func (o slow) truths() [][]api.Ratio {
	out := [][]api.Ratio{nil}
	for range o.Months {
		var longer [][]api.Ratio
		for _, truth := range out {
			for _, r := range o.ends() {
				if next := append(slices.Clone(truth), r); o.isTruth(next) {
					longer = append(longer, next)
				}
			}
		}
		out = longer
	}
	return out
}

// agreeing returns the truths of these ratios in which all weighings are true.
func (o slow) agreeing() [][]api.Ratio {
	return slices.DeleteFunc(o.truths(), func(truth []api.Ratio) bool { return len(o.falseIn(truth)) > 0 })
}

// bounds returns the least and the greatest ratio that a month has in truths in which all weighings are true, or an error.
func (o slow) bounds(agreeing [][]api.Ratio, month int) (lo, hi api.Ratio, e api.Errno) {
	if len(agreeing) == 0 {
		return lo, hi, api.ErrClash
	}
	var met []api.Ratio
	for _, truth := range agreeing {
		met = append(met, truth[month])
	}
	lo, hi = slices.MinFunc(met, inOrder), slices.MaxFunc(met, inOrder)
	if lo == smallest() || hi == largest() { // there the ratio can be less still, or more
		return api.Ratio{}, api.Ratio{}, api.ErrNone
	}
	return lo, hi, api.OK
}

// clash reports whether two weighings do, the first one above the second one.
func (o slow) clash(a, b int) bool {
	x, y := o.Weighings[a], o.Weighings[b]
	return o.isUnder(x.Month, y.Month) && x.Meat.Lo*y.Shells.Lo > y.Meat.Hi*x.Shells.Hi
}

// clashes returns all pairs that clash, in the order of A, then of B.
func (o slow) clashes() []boil.Pair {
	var out []boil.Pair
	for a := range o.Weighings {
		for b := range o.Weighings {
			if o.clash(a, b) {
				out = append(out, pair(a, b))
			}
		}
	}
	return out
}

// falseByTruths returns what tells whether a set is false, by the truths.
func (o slow) falseByTruths() func(set []int) bool {
	var all [][]int
	for _, truth := range o.truths() {
		all = append(all, o.falseIn(truth))
	}
	return func(set []int) bool {
		return slices.ContainsFunc(all, func(wrong []int) bool {
			return !slices.ContainsFunc(wrong, func(n int) bool { return !slices.Contains(set, n) })
		})
	}
}

// falseByPairs returns what tells whether a set is false, by the pairs that clash.
func (o slow) falseByPairs() func(set []int) bool {
	all := o.clashes()
	return func(set []int) bool {
		return !slices.ContainsFunc(all, func(p boil.Pair) bool { return !slices.Contains(set, p.A) && !slices.Contains(set, p.B) })
	}
}

// falseSets returns all false sets with the fewest weighings, in lexicographic order.
func (o slow) falseSets(isFalse func(set []int) bool) [][]int {
	all := make([][][]int, len(o.Weighings)+1)
	for bits := range 1 << len(o.Weighings) {
		set := slices.DeleteFunc(upto(len(o.Weighings)), func(n int) bool { return bits>>n%2 == 0 })
		all[len(set)] = append(all[len(set)], set)
	}
	for _, sets := range all {
		sets = slices.DeleteFunc(sets, func(set []int) bool { return !isFalse(set) })
		if len(sets) > 0 {
			slices.SortFunc(sets, slices.Compare)
			return sets
		}
	}
	return nil
}

// trusted returns the weighings that are in none of some sets.
func (o slow) trusted(sets [][]int) []int {
	return slices.DeleteFunc(upto(len(o.Weighings)), func(n int) bool {
		return slices.ContainsFunc(sets, func(set []int) bool { return slices.Contains(set, n) })
	})
}

// proves returns the error of pairs that are to be a proof, pair by pair.
func (o slow) proves(some []boil.Pair) (int, api.Errno) {
	as, bs := map[int]bool{}, map[int]bool{}
	for _, p := range some {
		if !isIn(p.A, 0, len(o.Weighings)-1) || !isIn(p.B, 0, len(o.Weighings)-1) {
			return 0, api.ErrMissing
		}
		if !o.clash(p.A, p.B) {
			return 0, api.ErrWrong
		}
		if as[p.A] || bs[p.B] {
			return 0, api.ErrAgain
		}
		as[p.A], bs[p.B] = true, true
	}
	return len(some), api.OK
}

// meat returns the whole numbers from some shells times a ratio to the shells times another one; none if there is no such number.
func meat(lo, hi api.Ratio, shells int) []int {
	var out []int
	for n := 0; n*hi.Den <= shells*hi.Num; n++ {
		if n*lo.Den >= shells*lo.Num {
			out = append(out, n)
		}
	}
	return out
}
