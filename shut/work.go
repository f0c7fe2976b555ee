package shut

import (
	"slices"

	"laurel/api"
)

// work is a shore that is at work, with what each fall of each rain closes, and the origins of each sack.
type work struct {
	Shore
	closes [MaxRains][MaxFall + 1]origins
	dug    []origins
}

// fit is a shore that is at work, with the weathers of all truths that fit.
type fit struct {
	*work
	weathers []weather
}

// begin puts a shore to work, or returns its error.
func begin(s Shore) (*work, api.Errno) {
	if e := Check(s); e != api.OK {
		return nil, e
	}
	w := &work{Shore: s}
	w.findClosed()
	for _, x := range s.Sacks {
		w.dug = append(w.dug, originsOf(x))
	}
	return w, api.OK
}

// beginFor puts a shore to work for something that it must have.
func beginFor(s Shore, has func(w *work) bool) (*work, api.Errno) {
	w, e := begin(s)
	if e != api.OK {
		return nil, e
	}
	if !has(w) {
		return nil, api.ErrMissing
	}
	return w, api.OK
}

// beginFit puts a shore to work for something that it must have, if some truth fits.
func beginFit(s Shore, has func(w *work) bool) (*fit, api.Errno) {
	w, e := beginFor(s, has)
	if e != api.OK {
		return nil, e
	}
	return w.fit()
}

// beginLists puts a shore to work for lists of sacks, if some truth fits.
func beginLists(s Shore, lists ...[]int) (*fit, api.Errno) {
	w, e := beginFor(s, func(w *work) bool {
		return every(lists, func(list []int) bool { return every(list, w.isSack) })
	})
	if e != api.OK {
		return nil, e
	}
	if !every(lists, func(list []int) bool { return areOnce(list, sameNumber) }) {
		return nil, api.ErrAgain
	}
	return w.fit()
}

// fit finds the weathers of all truths that fit; an error if none does.
func (w *work) fit() (*fit, api.Errno) {
	weathers := slices.Collect(w.whole().fitting())
	if len(weathers) == 0 {
		return nil, api.ErrClash
	}
	return &fit{work: w, weathers: weathers}, api.OK
}

// hasAll is for calls that ask for nothing that a shore may not have.
func hasAll(*work) bool { return true }

// every reports whether all elements of a list are what they are asked to be.
func every[T any](list []T, is func(T) bool) bool {
	for _, x := range list {
		if !is(x) {
			return false
		}
	}
	return true
}

// areOnce reports whether no two elements of a list are the same.
func areOnce[T any](list []T, same func(a, b T) bool) bool {
	for i, x := range list {
		if slices.ContainsFunc(list[:i], func(y T) bool { return same(x, y) }) {
			return false
		}
	}
	return true
}

func sameSack(a, b Test) bool { return a.Sack == b.Sack }

func sameNumber(a, b int) bool { return a == b }

// numbersThat returns the numbers below another one that are what they are asked to be.
func numbersThat(below int, are func(n int) bool) []int {
	var out []int
	for n := range below {
		if are(n) {
			out = append(out, n)
		}
	}
	return out
}

func (w *work) countsAllowed() bool {
	return within(w.Beds, 1, MaxBeds) && within(w.Tides, 1, MaxTides) &&
		len(w.Drains) <= MaxDrains && len(w.Rains) <= MaxRains && len(w.Sacks) <= MaxSacks &&
		every(w.Sacks, hasBeds)
}

func hasBeds(x Sack) bool { return len(x.Beds) > 0 }

func (w *work) numbersAllowed() bool {
	return every(w.Drains, isAllowed) && every(w.Rains, fallsAllowed)
}

func isAllowed(d Drain) bool { return within(d.Needs, 1, MaxFall) && within(d.Shuts, 1, MaxTides) }

func fallsAllowed(r Rain) bool { return within(r.Fall.Lo, 0, MaxFall) && within(r.Fall.Hi, 0, MaxFall) }

// allThere reports whether all beds, tides and sacks that are named exist.
func (w *work) allThere() bool {
	return every(w.Drains, func(d Drain) bool { return every(d.Beds, w.isBed) }) &&
		every(w.Sacks, func(x Sack) bool { return every(x.Beds, w.isBed) && w.isTide(x.Tides.Lo) && w.isTide(x.Tides.Hi) }) &&
		every(w.Rains, func(r Rain) bool { return w.isTide(r.Tide) }) &&
		every(w.Tests, w.isOfSack)
}

func (w *work) allInOrder() bool {
	return every(w.Drains, func(d Drain) bool { return isInOrder(d.Beds) }) &&
		every(w.Sacks, func(x Sack) bool { return isInOrder(x.Beds) && x.Tides.Lo <= x.Tides.Hi }) &&
		every(w.Rains, func(r Rain) bool { return r.Fall.Lo <= r.Fall.Hi })
}

// isInOrder reports whether a list is in strictly increasing order.
func isInOrder(list []int) bool {
	return slices.IsSorted(list) && areOnce(list, sameNumber)
}

func (w *work) isBed(bed int) bool { return within(bed, 0, w.Beds-1) }

func (w *work) isTide(tide int) bool { return within(tide, 0, w.Tides-1) }

func (w *work) isSpot(o Origin) bool { return w.isBed(o.Bed) && w.isTide(o.Tide) }

func (w *work) isRain(rain int) bool { return within(rain, 0, len(w.Rains)-1) }

func (w *work) isSack(sack int) bool { return within(sack, 0, len(w.Sacks)-1) }

func (w *work) isOfSack(t Test) bool { return w.isSack(t.Sack) }

func (w *work) isTest(test int) bool { return within(test, 0, len(w.Tests)-1) }

func within(n, least, most int) bool { return least <= n && n <= most }
