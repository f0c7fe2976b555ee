// Package tide tells when places on the sands are dry: layer 1, shared/doc/01-tide.md.
package tide

import "laurel/api"

// Sea is no place.
const Sea = -1

// The states of a place.
const (
	Dry State = iota
	Perhaps
	Wet
)

// The limits of layer 1.
const (
	MaxTable  = 12
	MaxMinute = 1440
	MaxHeight = 999
	MaxWind   = 50
	MaxPlaces = 8
	MaxSills  = 16
	MaxLooks  = 10
)

// Water is a high or a low water.
type Water struct{ Minute, Height int }

// Sill joins two places, or a place and the Sea.
type Sill struct{ A, B, Height int }

// Sands is a table, the wind, and the places with their floors and sills.
type Sands struct {
	Table  []Water
	Wind   api.Span
	Floors []int
	Sills  []Sill
}

// Look says whether a place was wet at a minute.
type Look struct {
	Minute, Place int
	Wet           bool
}

// State is that of a place.
type State int

// Check returns the error of sands.
func Check(s Sands) api.Errno {
	w := work{Sands: s}
	switch {
	case !w.countsAllowed():
		return api.ErrMany
	case !w.numbersAllowed():
		return api.ErrLimit
	case !w.inOrder():
		return api.ErrOrder
	case !every(w.Sills, w.joinsThings):
		return api.ErrMissing
	case !every(w.Sills, joinsTwo):
		return api.ErrWrong
	}
	return api.OK
}

// Height returns the height at a minute.
func Height(s Sands, minute int) (int, api.Errno) {
	w, e := beginAt(s, minute)
	if e != api.OK {
		return 0, e
	}
	return w.height(minute), api.OK
}

// Level returns the least and the greatest level at a minute.
func Level(s Sands, minute int) (api.Span, api.Errno) {
	w, e := beginAt(s, minute)
	if e != api.OK {
		return api.Span{}, e
	}
	return w.level(minute), api.OK
}

// Gate returns the gate of a place.
func Gate(s Sands, place int) (int, api.Errno) {
	w, e := beginGate(s, place)
	if e != api.OK {
		return 0, e
	}
	return w.gates[place], api.OK
}

// Way returns a way whose crest is the gate.
func Way(s Sands, place int) ([]int, api.Errno) {
	w, e := beginGate(s, place)
	if e != api.OK {
		return nil, e
	}
	gate := w.gates[place]
	ways := w.ways(func(sill, to int) bool { return w.step(sill, to) <= gate })
	return ways[place], api.OK
}

// Crest returns that of a way.
func Crest(s Sands, place int, way []int) (int, api.Errno) {
	w, e := beginFor(s, place)
	if e != api.OK {
		return 0, e
	}
	if !every(way, w.isSill) {
		return 0, api.ErrMissing
	}
	end, crest := w.follow(way)
	if end != place {
		return 0, api.ErrWrong
	}
	return crest, api.OK
}

// Bank returns a bank whose height is the gate.
func Bank(s Sands, place int) (sills, places []int, e api.Errno) {
	w, e := beginGate(s, place)
	if e != api.OK {
		return nil, nil, e
	}
	sills, places = w.bank(w.gates[place])
	return sills, places, api.OK
}

// Hold returns the height of a bank.
func Hold(s Sands, place int, sills, places []int) (int, api.Errno) {
	w, e := beginFor(s, place)
	if e != api.OK {
		return 0, e
	}
	if !every(sills, w.isSill) || !every(places, w.isPlace) {
		return 0, api.ErrMissing
	}
	inSills, inPlaces := counted(sills), counted(places)
	if len(inSills) < len(sills) || len(inPlaces) < len(places) {
		return 0, api.ErrAgain
	}
	open := w.ways(func(sill, to int) bool { return inSills[sill] == 0 && inPlaces[to] == 0 })
	if open[place] != nil {
		return 0, api.ErrWrong
	}
	if len(sills) == 0 && len(places) == 0 {
		return 0, api.ErrNone
	}
	return w.least(sills, places), api.OK
}

// At returns the state of a place.
func At(s Sands, minute, place int) (State, api.Errno) {
	w, e := beginAt(s, minute)
	if e != api.OK {
		return 0, e
	}
	if !w.isPlace(place) {
		return 0, api.ErrMissing
	}
	return w.state(minute, place), api.OK
}

// All returns the states of all places.
func All(s Sands, minute int) ([]State, api.Errno) {
	w, e := beginAt(s, minute)
	if e != api.OK {
		return nil, e
	}
	states := make([]State, len(w.Floors))
	for place := range states {
		states[place] = w.state(minute, place)
	}
	return states, api.OK
}

// Spans returns the spans of all minutes at which a place has a state.
func Spans(s Sands, place int, state State) ([]api.Span, api.Errno) {
	w, e := beginFor(s, place)
	if e != api.OK {
		return nil, e
	}
	if state != Dry && state != Perhaps && state != Wet {
		return nil, api.ErrWrong
	}
	v := watch{work: w, places: []int{place}, wanted: func(x State) bool { return x == state }}
	return v.spans(), api.OK
}

// Turn returns the last minute up to which a place is dry for certain.
func Turn(s Sands, place, minute int) (int, api.Errno) {
	w, e := beginFor(s, place)
	if e != api.OK {
		return 0, e
	}
	if e := refused(w.isOfDay, minute, api.ErrLimit); e != api.OK {
		return 0, e
	}
	for _, dry := range w.dryTogether([]int{place}) {
		if dry.Lo <= minute && minute <= dry.Hi {
			return dry.Hi, api.OK
		}
	}
	return 0, api.ErrNone
}

// Flood returns the first minute at which a place that is dry is not any more, and these places.
func Flood(s Sands, minute int) (int, []int, api.Errno) {
	w, e := beginAt(s, minute)
	if e != api.OK {
		return 0, nil, e
	}
	dry := those(w.allPlaces(), func(place int) bool { return isDry(w.state(minute, place)) })
	first, flooded := minute, false
search:
	for range w.last() - minute {
		first++
		for _, place := range dry {
			if !isDry(w.state(first, place)) {
				flooded = true
				break search
			}
		}
	}
	if !flooded {
		return 0, nil, api.ErrNone
	}
	return first, those(dry, func(place int) bool { return !isDry(w.state(first, place)) }), api.OK
}

// Longest returns the longest span in which places are dry.
func Longest(s Sands, places []int) (api.Span, api.Errno) {
	w, e := begin(s)
	if e != api.OK {
		return api.Span{}, e
	}
	if !every(places, w.isPlace) {
		return api.Span{}, api.ErrMissing
	}
	// A place that is listed often is watched once, so that a long list takes no longer.
	in := counted(places)
	spans := w.dryTogether(those(w.allPlaces(), func(place int) bool { return in[place] > 0 }))
	if len(spans) == 0 {
		return api.Span{}, api.ErrNone
	}
	longest := spans[0]
	for _, dry := range spans {
		if size(dry) > size(longest) {
			longest = dry
		}
	}
	return longest, api.OK
}

// Looks returns the least and the greatest truth that agrees with looks.
func Looks(s Sands, looks []Look) (api.Span, api.Errno) {
	w, e := beginLooks(s, looks)
	if e != api.OK {
		return api.Span{}, e
	}
	left := w.Wind
	for _, look := range looks {
		left = common(left, w.truths(look))
	}
	if size(left) == 0 {
		return api.Span{}, api.ErrClash
	}
	return left, api.OK
}

// Clash returns as few looks as can be with which no truth agrees.
func Clash(s Sands, looks []Look) ([]int, api.Errno) {
	w, e := beginLooks(s, looks)
	if e != api.OK {
		return nil, e
	}
	if clash := w.clash(looks); clash != nil {
		return clash, api.OK
	}
	return nil, api.ErrNone
}

// Ask returns the look that settles most, and how many truths are left at most.
func Ask(s Sands) (Look, int, api.Errno) {
	w, e := begin(s)
	if e != api.OK {
		return Look{}, 0, e
	}
	if size(w.Wind) == 1 {
		return Look{}, 0, api.ErrNone
	}
	look, most := w.ask()
	return look, most, api.OK
}
