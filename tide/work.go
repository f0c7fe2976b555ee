package tide

import "laurel/api"

// noGate stands for the gate of a place without a way: no level is greater in any truth.
const noGate = MaxHeight + MaxWind + 1

// work is sands that are at work, with the gates of their places.
type work struct {
	Sands
	gates [MaxPlaces]int
}

// begin puts sands to work, or returns their error.
func begin(s Sands) (*work, api.Errno) {
	if e := Check(s); e != api.OK {
		return nil, e
	}
	w := &work{Sands: s}
	w.gates = w.allGates()
	return w, api.OK
}

// beginAt puts sands to work for a minute.
func beginAt(s Sands, minute int) (*work, api.Errno) {
	w, e := begin(s)
	if e != api.OK {
		return nil, e
	}
	return w, refused(w.isOfDay, minute, api.ErrLimit)
}

// beginFor puts sands to work for a place.
func beginFor(s Sands, place int) (*work, api.Errno) {
	w, e := begin(s)
	if e != api.OK {
		return nil, e
	}
	return w, refused(w.isPlace, place, api.ErrMissing)
}

// beginGate puts sands to work for a place that must have a way.
func beginGate(s Sands, place int) (*work, api.Errno) {
	w, e := beginFor(s, place)
	if e != api.OK {
		return nil, e
	}
	return w, refused(w.hasWay, place, api.ErrNone)
}

// beginLooks puts sands to work for looks.
func beginLooks(s Sands, looks []Look) (*work, api.Errno) {
	w, e := begin(s)
	if e != api.OK {
		return nil, e
	}
	if len(looks) > MaxLooks {
		return nil, api.ErrMany
	}
	for _, look := range looks {
		if e := refused(w.isOfDay, look.Minute, api.ErrLimit); e != api.OK {
			return nil, e
		}
		if e := refused(w.isPlace, look.Place, api.ErrMissing); e != api.OK {
			return nil, e
		}
	}
	return w, api.OK
}

// refused returns an error unless a number is what it is asked to be.
func refused(is func(int) bool, n int, e api.Errno) api.Errno {
	if is(n) {
		return api.OK
	}
	return e
}

// every reports whether all elements of a list are what they are asked to be.
func every[T any](list []T, is func(T) bool) bool {
	for _, x := range list {
		if !is(x) {
			return false
		}
	}
	return true
}

// those returns the elements of a list that are what they are asked to be.
func those[T any](list []T, are func(T) bool) []T {
	var out []T
	for _, x := range list {
		if are(x) {
			out = append(out, x)
		}
	}
	return out
}

func (w *work) countsAllowed() bool {
	return within(len(w.Table), 2, MaxTable) && within(len(w.Floors), 1, MaxPlaces) && len(w.Sills) <= MaxSills
}

func (w *work) numbersAllowed() bool {
	return every(w.Table, func(x Water) bool { return within(x.Minute, 0, MaxMinute) && isHeight(x.Height) }) &&
		isWind(w.Wind.Lo) && isWind(w.Wind.Hi) &&
		every(w.Floors, isHeight) &&
		every(w.Sills, func(x Sill) bool { return isHeight(x.Height) })
}

func (w *work) inOrder() bool {
	for i, x := range w.Table[1:] {
		if x.Minute <= w.Table[i].Minute {
			return false
		}
	}
	return w.Wind.Lo <= w.Wind.Hi
}

func (w *work) joinsThings(x Sill) bool {
	return (x.A == Sea || w.isPlace(x.A)) && (x.B == Sea || w.isPlace(x.B))
}

func joinsTwo(x Sill) bool { return x.A != x.B }

func (w *work) isPlace(place int) bool { return within(place, 0, len(w.Floors)-1) }

func (w *work) isSill(sill int) bool { return within(sill, 0, len(w.Sills)-1) }

func (w *work) isOfDay(minute int) bool { return within(minute, w.first(), w.last()) }

func (w *work) hasWay(place int) bool { return w.gates[place] != noGate }

func (w *work) first() int { return w.Table[0].Minute }

func (w *work) last() int { return w.Table[len(w.Table)-1].Minute }

func isHeight(n int) bool { return within(n, 0, MaxHeight) }

func isWind(n int) bool { return within(n, -MaxWind, MaxWind) }

func within(n, least, most int) bool { return least <= n && n <= most }
