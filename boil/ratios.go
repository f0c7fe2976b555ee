package boil

import (
	"cmp"
	"slices"

	"laurel/api"
)

// lowest returns a fraction in lowest terms.
func lowest(num, den int) api.Ratio {
	a, b := num, den
	for b != 0 {
		a, b = b, a%b
	}
	return api.Ratio{Num: num / a, Den: den / a}
}

func compare(a, b api.Ratio) int { return cmp.Compare(a.Num*b.Den, b.Num*a.Den) }

func isGreater(a, b api.Ratio) bool { return compare(a, b) > 0 }

// greatestOf returns the greatest of several ratios.
func greatestOf(ratios ...api.Ratio) api.Ratio { return slices.MaxFunc(ratios, compare) }

// reachOf returns the ratios that a weighing is true with.
func reachOf(x Weighing) reach {
	return reach{least: lowest(x.Meat.Lo, x.Shells.Hi), greatest: lowest(x.Meat.Hi, x.Shells.Lo)}
}

func (r reach) has(ratio api.Ratio) bool {
	return !isGreater(r.least, ratio) && !isGreater(ratio, r.greatest)
}

// isUnder reports whether a month lies under another one.
func (w *work) isUnder(a, b int) bool {
	return a <= b && b <= w.Peak || a >= b && b >= w.Peak
}

// isTruth reports whether ratios of all months rise up to the peak, and fall behind it.
func (w *work) isTruth(truth []api.Ratio) bool {
	for a := range w.Months {
		for b := range w.Months {
			if w.isUnder(a, b) && isGreater(truth[a], truth[b]) {
				return false
			}
		}
	}
	return true
}

// falseIn returns the weighings that are not true in a truth.
func (w *work) falseIn(truth []api.Ratio) []int {
	return numbersThat(len(w.Weighings), func(n int) bool { return !w.ratios[n].has(truth[w.Weighings[n].Month]) })
}

// leasts returns the least ratios of the weighings whose months lie under a month: its own ratio is at least each of them.
func (w *work) leasts(month int) []api.Ratio {
	var out []api.Ratio
	for n, x := range w.Weighings {
		if w.isUnder(x.Month, month) {
			out = append(out, w.ratios[n].least)
		}
	}
	return out
}

// greatests returns the greatest ratios of the weighings under whose months a month lies: its own ratio is at most each of them.
func (w *work) greatests(month int) []api.Ratio {
	var out []api.Ratio
	for n, x := range w.Weighings {
		if w.isUnder(month, x.Month) {
			out = append(out, w.ratios[n].greatest)
		}
	}
	return out
}

// shown returns the truth in which each month has the least ratio that it can have, if all weighings agree. Where any ratio
// will do that is small enough, it is the smallest that a weighing can be true with, as none of another month is below that.
func (w *work) shown() []api.Ratio {
	var truth []api.Ratio
	for month := range w.Months {
		smallest := api.Ratio{Num: 1, Den: MaxMeasures}
		truth = append(truth, greatestOf(append(w.leasts(month), smallest)...))
	}
	return truth
}

// bounds returns the ratios that a month can have, or the error of the month, or of there being none.
func (w *work) bounds(month int) (reach, api.Errno) {
	switch {
	case !w.isMonth(month):
		return reach{}, api.ErrMissing
	case !w.agree():
		return reach{}, api.ErrClash
	}
	leasts, greatests := w.leasts(month), w.greatests(month)
	if len(leasts) == 0 || len(greatests) == 0 {
		return reach{}, api.ErrNone
	}
	return reach{least: greatestOf(leasts...), greatest: slices.MinFunc(greatests, compare)}, api.OK
}

// meat returns how much of it can have come out of shells, or an error.
func (w *work) meat(month, shells int) (api.Span, api.Errno) {
	b, e := w.bounds(month)
	if e != api.OK {
		return api.Span{}, e
	}
	out := api.Span{
		Lo: (b.least.Num*shells + b.least.Den - 1) / b.least.Den,
		Hi: b.greatest.Num * shells / b.greatest.Den,
	}
	if out.Lo > out.Hi {
		return api.Span{}, api.ErrWrong
	}
	return out, api.OK
}
