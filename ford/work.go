package ford

import (
	"cmp"
	"slices"

	"laurel/api"
)

// work is sands that are at work: with the steps that there are from each place, and the sets of truths in which places are dry.
type work struct {
	Sands
	from map[int][]Step
	dry  [MaxPlaces][MaxMinute + 1]int
}

// begin puts sands to work, or returns their error.
func begin(s Sands) (*work, api.Errno) {
	if e := Check(s); e != api.OK {
		return nil, e
	}
	return started(s), api.OK
}

// started puts sands to work that are allowed.
func started(s Sands) *work {
	w := &work{Sands: s}
	w.from = w.stepsFrom()
	for place := range w.Places {
		for minute := range w.Last + 1 {
			w.dry[place][minute] = w.setOf(moment{w, place, minute}.isDry)
		}
	}
	return w
}

// beginFor puts sands to work for a place.
func beginFor(s Sands, place int) (*work, api.Errno) {
	w, e := begin(s)
	if e != api.OK {
		return nil, e
	}
	return w, refused(w.isPlace, place, api.ErrMissing)
}

// beginAt puts sands to work for a minute.
func beginAt(s Sands, minute int) (*work, api.Errno) {
	w, e := begin(s)
	if e != api.OK {
		return nil, e
	}
	return w, refused(w.isMinute, minute, api.ErrLimit)
}

// beginState puts sands to work for a state.
func beginState(s Sands, x State) (*work, api.Errno) {
	w, e := beginFor(s, x.Place)
	if e != api.OK {
		return nil, e
	}
	if !w.isMinute(x.Minute) || !w.isSet(x.Left) {
		return nil, api.ErrLimit
	}
	return w, api.OK
}

// refused returns an error unless a number is what it is asked to be.
func refused(is func(int) bool, n int, e api.Errno) api.Errno {
	if is(n) {
		return api.OK
	}
	return e
}

// every reports whether all elements of a list are what they are asked to be.
func every[T any](list []T, is func(T) bool) bool {
	for _, x := range list {
		if !is(x) {
			return false
		}
	}
	return true
}

func (w *work) countsAllowed() bool {
	return within(w.Places, 1, MaxPlaces) && within(len(w.Truths), 1, MaxTruths) && len(w.Ways) <= MaxWays &&
		len(w.Looks) == len(w.Truths) &&
		every(w.Looks, func(looks []int) bool { return len(looks) == w.Places }) &&
		every(w.Truths, func(x Truth) bool { return len(x.Dry) == w.Places })
}

func (w *work) numbersAllowed() bool {
	isLook := func(n int) bool { return within(n, 0, MaxLook) }
	return within(w.Last, 1, MaxMinute) &&
		every(w.Ways, func(way [3]int) bool { return within(way[2], 1, MaxWay) }) &&
		every(w.Looks, func(looks []int) bool { return every(looks, isLook) })
}

func (w *work) joinsPlaces() bool {
	return w.isPlace(w.Home) && w.isPlace(w.Bed) &&
		every(w.Ways, func(way [3]int) bool { return w.isPlace(way[0]) && w.isPlace(way[1]) })
}

// joinsOnce reports whether Home is not Bed, each way joins two places, and no two ways join the same ones.
func (w *work) joinsOnce() bool {
	var joined [MaxPlaces][MaxPlaces]bool
	once := func(way [3]int) bool {
		a, b := way[0], way[1]
		again := a == b || joined[a][b]
		joined[a][b], joined[b][a] = true, true
		return !again
	}
	return w.Home != w.Bed && every(w.Ways, once)
}

// errorOfTruths returns the error of the first dry span that has one.
func (w *work) errorOfTruths() api.Errno {
	for _, truth := range w.Truths {
		for _, spans := range truth.Dry {
			if e := w.errorOfSpans(spans); e != api.OK {
				return e
			}
		}
	}
	return api.OK
}

func (w *work) errorOfSpans(spans []api.Span) api.Errno {
	least := 0
	for _, x := range spans {
		if x.Lo < 0 || x.Hi > w.Last || x.Hi < x.Lo {
			return api.ErrLimit
		}
		if x.Lo < least {
			return api.ErrOrder
		}
		// The minute behind a span is wet, or the next span would be a part of it.
		least = x.Hi + 2
	}
	return api.OK
}

// stepsFrom returns the steps that there are from each place, in the order of To.
func (w *work) stepsFrom() map[int][]Step {
	from := map[int][]Step{}
	for place := range w.Places {
		from[place] = []Step{{To: place, Minutes: 1}}
	}
	for _, way := range w.Ways {
		a, b, minutes := way[0], way[1], way[2]
		from[a] = append(from[a], Step{To: b, Minutes: minutes})
		from[b] = append(from[b], Step{To: a, Minutes: minutes})
	}
	for place := range w.Places {
		slices.SortFunc(from[place], func(a, b Step) int { return cmp.Compare(a.To, b.To) })
	}
	return from
}

// all returns the set of all truths.
func (w *work) all() int { return 1<<len(w.Truths) - 1 }

func (w *work) isPlace(place int) bool { return within(place, 0, w.Places-1) }

func (w *work) isMinute(minute int) bool { return within(minute, 0, w.Last) }

func (w *work) isSet(left int) bool { return within(left, 1, w.all()) }

func within(n, least, most int) bool { return least <= n && n <= most }
