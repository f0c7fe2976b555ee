package fog

import (
	"slices"

	"laurel/api"
)

// spot is a place in a minute.
type spot struct{ minute, place int }

// view is a cart in a fog, of whose reports some count.
type view struct {
	*work
	Cart
	counts func(report int) bool
}

// viewOf returns the view of a cart, all of whose reports count.
func (w *work) viewOf(cart int) view {
	return view{work: w, Cart: w.Carts[cart], counts: func(int) bool { return true }}
}

// agrees reports whether a walk through a spot would report the blasts of its minute as all reports say that count.
func (v view) agrees(x spot) bool {
	for i, r := range v.Reports {
		if v.Blasts[r.Blast].Minute != x.minute || !v.counts(i) {
			continue
		}
		told := Report{Blast: r.Blast, Heard: v.hears(r.Blast, x.place)}
		if told != r {
			return false
		}
	}
	return true
}

// fits reports whether a list is a walk that fits.
func (v view) fits(walk []int) bool {
	if len(walk) != v.Sands.Minutes+1 || !every(walk, v.isPlace) || !slices.Contains(v.Start, walk[0]) {
		return false
	}
	for minute, place := range walk {
		if !v.agrees(spot{minute: minute, place: place}) {
			return false
		}
		if minute > 0 && !v.leads(walk[minute-1], place) {
			return false
		}
	}
	return true
}

// goOn returns how many walks go on from each spot to the end and agree; from those that it does not have none does.
func (v view) goOn() map[spot]int {
	on := map[spot]int{}
	for minute := v.Sands.Minutes; minute >= 0; minute-- {
		for place := range v.Sands.Places {
			x := spot{minute: minute, place: place}
			if v.agrees(x) {
				on[x] = v.onward(x, on)
			}
		}
	}
	return on
}

// onward returns how many walks go on from a spot, if it is known how many do from those of the next minute.
func (v view) onward(x spot, on map[spot]int) int {
	if x.minute == v.Sands.Minutes {
		return 1
	}
	many := 0
	for to := range v.next(x.place) {
		many += on[spot{minute: x.minute + 1, place: to}]
	}
	return many
}

// count returns how many walks fit.
func (v view) count() int {
	on := v.goOn()
	many := 0
	for _, place := range v.Start {
		many += on[spot{place: place}]
	}
	return many
}

// can returns for each minute the places at which the cart can be: none in any of them if no walk fits.
// Each walk through such places fits, as the reports ask for nothing but the places of their minutes.
func (v view) can() [][]int {
	on := v.goOn()
	reached := v.Start
	var can [][]int
	for minute := range v.Sands.Minutes + 1 {
		places := v.placesThat(func(place int) bool {
			return on[spot{minute: minute, place: place}] > 0 && slices.Contains(reached, place)
		})
		can = append(can, places)
		reached = v.around(places)
	}
	return can
}

// around returns the places to which a cart can go from some places in a minute.
func (w *work) around(places []int) []int {
	var out []int
	for _, from := range places {
		for to := range w.next(from) {
			out = append(out, to)
		}
	}
	return out
}

// at returns the places at which the cart can be in a minute; an error if no walk fits.
func (v view) at(minute int) ([]int, api.Errno) {
	places := v.can()[minute]
	if len(places) == 0 {
		return nil, api.ErrClash
	}
	return places, api.OK
}

// through returns a walk through places at which the cart can be, and through one spot of them.
func (v view) through(can [][]int, x spot) []int {
	walk := make([]int, len(can))
	walk[x.minute] = x.place
	for minute := x.minute; minute > 0; minute-- {
		walk[minute-1] = v.beside(can[minute-1], walk[minute])
	}
	for minute := x.minute + 1; minute < len(can); minute++ {
		walk[minute] = v.beside(can[minute], walk[minute-1])
	}
	return walk
}

// beside returns the first one of some places that is a minute at most from another place.
func (w *work) beside(places []int, place int) int {
	i := slices.IndexFunc(places, func(other int) bool { return w.leads(place, other) })
	return places[i]
}

// still returns in how many steps a walk through places at which the cart can be stays, at most.
func (v view) still(can [][]int) int {
	var stays [MaxPlaces]int
	for minute := range v.Sands.Minutes {
		var longer [MaxPlaces]int
		for _, from := range can[minute] {
			for to := range v.next(from) {
				longer[to] = max(longer[to], stays[from])
			}
			longer[from] = max(longer[from], stays[from]+1)
		}
		stays = longer
	}
	most := 0
	for _, place := range can[v.Sands.Minutes] {
		most = max(most, stays[place])
	}
	return most
}

// meetings returns the minutes in which two carts can be at the same place, by the places at which each one can be.
func (w *work) meetings(one, other [][]int) []int {
	var minutes []int
	for minute := range w.Sands.Minutes + 1 {
		isShared := func(place int) bool { return slices.Contains(other[minute], place) }
		if slices.ContainsFunc(one[minute], isShared) {
			minutes = append(minutes, minute)
		}
	}
	return minutes
}
