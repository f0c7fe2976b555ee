package tide

import "laurel/api"

// height returns the height at a minute of the day.
func (w *work) height(minute int) int {
	before := w.Table[0]
	for _, after := range w.Table[1:] {
		if minute <= after.Minute {
			return onLine(before, after, minute)
		}
		before = after
	}
	return before.Height
}

// onLine returns the height between two waters, rounded down.
// Both parts are added before they are divided: the sum is not negative, so that the division rounds down.
func onLine(before, after Water, minute int) int {
	all, gone := after.Minute-before.Minute, minute-before.Minute
	return (before.Height*all + (after.Height-before.Height)*gone) / all
}

func (w *work) level(minute int) api.Span {
	height := w.height(minute)
	return api.Span{Lo: height + w.Wind.Lo, Hi: height + w.Wind.Hi}
}

func (w *work) state(minute, place int) State {
	level, gate := w.level(minute), w.gates[place]
	switch {
	case level.Lo > gate:
		return Wet
	case level.Hi > gate:
		return Perhaps
	}
	return Dry
}

func isDry(state State) bool { return state == Dry }

// allPlaces returns the numbers of all places.
func (w *work) allPlaces() []int {
	out := make([]int, len(w.Floors))
	for place := range out {
		out[place] = place
	}
	return out
}

// watch looks for the minutes at which some places all have a state that is wanted.
type watch struct {
	*work
	places []int
	wanted func(State) bool
}

func (v watch) fits(minute int) bool {
	return every(v.places, func(place int) bool { return v.wanted(v.state(minute, place)) })
}

// spans returns the spans of all minutes that fit, each as long as can be.
func (v watch) spans() []api.Span {
	var out []api.Span
	var from int
	open := false
	closeSpan := func(to int) {
		if open {
			out = append(out, api.Span{Lo: from, Hi: to})
		}
		open = false
	}
	for i := range v.last() - v.first() + 1 {
		minute := v.first() + i
		switch fits := v.fits(minute); {
		case !fits:
			closeSpan(minute - 1)
		case !open:
			from, open = minute, true
		}
	}
	closeSpan(v.last())
	return out
}

// dryTogether returns the spans of all minutes at which some places are all Dry.
func (w *work) dryTogether(places []int) []api.Span {
	return watch{work: w, places: places, wanted: isDry}.spans()
}
