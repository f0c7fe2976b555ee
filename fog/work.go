package fog

import (
	"slices"

	"laurel/api"
)

// noWay stands for the distance of two places without a way: more than each distance, and than each loudness.
const noWay = MaxPlaces + MaxLoud

// work is a fog that is at work, with the distances of its places.
type work struct {
	Fog
	far [MaxPlaces][MaxPlaces]int
}

// begin puts a fog to work, or returns its error.
func begin(f Fog) (*work, api.Errno) {
	if e := Check(f); e != api.OK {
		return nil, e
	}
	w := &work{Fog: f}
	w.measure()
	return w, api.OK
}

// beginCart puts a fog to work for a cart, all of whose reports count.
func beginCart(f Fog, cart int) (view, api.Errno) {
	w, e := begin(f)
	if e != api.OK {
		return view{}, e
	}
	if e := refused(w.isCart, cart, api.ErrMissing); e != api.OK {
		return view{}, e
	}
	return w.viewOf(cart), api.OK
}

// beginMinute puts a fog to work for a cart and a minute.
func beginMinute(f Fog, cart, minute int) (view, api.Errno) {
	v, e := beginCart(f, cart)
	if e != api.OK {
		return view{}, e
	}
	return v, refused(v.isMinute, minute, api.ErrLimit)
}

// beginLoud puts a fog to work for blasts with a loudness, and returns the places at which a cart can be in a minute.
func beginLoud(f Fog, cart, minute, loud int) (*work, []int, api.Errno) {
	v, e := beginMinute(f, cart, minute)
	if e != api.OK {
		return nil, nil, e
	}
	if e := refused(isLoud, loud, api.ErrLimit); e != api.OK {
		return nil, nil, e
	}
	places, e := v.at(minute)
	return v.work, places, e
}

// refused returns an error unless a number is what it is asked to be.
func refused(is func(int) bool, n int, e api.Errno) api.Errno {
	if is(n) {
		return api.OK
	}
	return e
}

// every reports whether all elements of a list are what they are asked to be.
func every[T any](list []T, is func(T) bool) bool {
	for _, x := range list {
		if !is(x) {
			return false
		}
	}
	return true
}

// areOnce reports whether no two elements of a list are the same.
func areOnce[T any](list []T, same func(a, b T) bool) bool {
	for i, x := range list {
		if slices.ContainsFunc(list[:i], func(y T) bool { return same(x, y) }) {
			return false
		}
	}
	return true
}

// sameTrack reports whether two tracks are between the same places.
func sameTrack(a, b [2]int) bool { return a == b || a == [2]int{b[1], b[0]} }

func sameBlast(a, b Report) bool { return a.Blast == b.Blast }

func sameNumber(a, b int) bool { return a == b }

func (w *work) countsAllowed() bool {
	return within(w.Sands.Places, 1, MaxPlaces) && within(w.Sands.Minutes, 0, MaxMinutes) &&
		len(w.Sands.Tracks) <= MaxTracks && len(w.Blasts) <= MaxBlasts && within(len(w.Carts), 1, MaxCarts) &&
		every(w.Carts, func(c Cart) bool { return len(c.Reports) <= MaxBlasts })
}

func (w *work) isAllowed(b Blast) bool { return isLoud(b.Loud) && w.isMinute(b.Minute) }

// allThere reports whether all places and blasts that are named exist.
func (w *work) allThere() bool {
	return every(w.Sands.Tracks, func(track [2]int) bool { return every(track[:], w.isPlace) }) &&
		every(w.Blasts, func(b Blast) bool { return w.isPlace(b.Place) }) &&
		every(w.Carts, func(c Cart) bool { return every(c.Start, w.isPlace) && every(c.Reports, w.isOfBlast) })
}

func joinsTwo(track [2]int) bool { return track[0] != track[1] }

func (w *work) allOnce() bool {
	return areOnce(w.Sands.Tracks, sameTrack) &&
		every(w.Carts, func(c Cart) bool { return areOnce(c.Reports, sameBlast) })
}

func starts(c Cart) bool { return len(c.Start) > 0 }

func startsInOrder(c Cart) bool {
	for i, place := range c.Start[1:] {
		if place <= c.Start[i] {
			return false
		}
	}
	return true
}

func (w *work) isPlace(place int) bool { return within(place, 0, w.Sands.Places-1) }

func (w *work) isMinute(minute int) bool { return within(minute, 0, w.Sands.Minutes) }

func (w *work) isBlast(blast int) bool { return within(blast, 0, len(w.Blasts)-1) }

func (w *work) isOfBlast(r Report) bool { return w.isBlast(r.Blast) }

func (w *work) isCart(cart int) bool { return within(cart, 0, len(w.Carts)-1) }

func isLoud(loud int) bool { return within(loud, 0, MaxLoud) }

func within(n, least, most int) bool { return least <= n && n <= most }
