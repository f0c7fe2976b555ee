package fog

import (
	"iter"
	"slices"
)

// with returns the fog in which a cart has one report more; its lists are copies, as the given ones must stay.
func (w *work) with(cart int, r Report) Fog {
	f := w.Fog
	f.Sands.Tracks, f.Blasts = slices.Clone(w.Sands.Tracks), slices.Clone(w.Blasts)
	f.Carts = make([]Cart, len(w.Carts))
	for i, c := range w.Carts {
		f.Carts[i] = Cart{Start: slices.Clone(c.Start), Reports: slices.Clone(c.Reports)}
	}
	f.Carts[cart].Reports = longer(w.Carts[cart].Reports, r)
	return f
}

// longer returns a copy of reports with one more.
func longer(reports []Report, r Report) []Report {
	out := make([]Report, len(reports)+1)
	copy(out, reports)
	out[len(reports)] = r
	return out
}

func (v view) isReport(report int) bool { return within(report, 0, len(v.Reports)-1) }

// agreed reports whether some walk agrees with all of some reports.
func (v view) agreed(reports []int) bool {
	some := v
	some.counts = func(report int) bool { return slices.Contains(reports, report) }
	return some.count() > 0
}

// fewest returns the first of the shortest lists of numbers below another one that are what they are asked to be, and whether there is one.
func fewest(below int, are func(list []int) bool) (list []int, found bool) {
search:
	for size := range below + 1 {
		for some := range lists(below, size) {
			if are(some) {
				list, found = some, true
				break search
			}
		}
	}
	return list, found
}

// lists yields all lists of so many numbers below another one in increasing order, the lists in lexicographic order; each one is new.
func lists(below, size int) iter.Seq[[]int] {
	return func(yield func([]int) bool) {
		var choose func(list []int, from int) bool
		choose = func(list []int, from int) bool {
			if len(list) == size {
				return yield(list)
			}
			for n := from; n < below; n++ {
				if !choose(append(slices.Clone(list), n), n+1) {
					return false
				}
			}
			return true
		}
		choose(nil, 0)
	}
}
