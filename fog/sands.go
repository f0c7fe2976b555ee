package fog

import "iter"

// measure finds the distances of all places, by ways that go through more and more of them.
func (w *work) measure() {
	for a := range w.far {
		for b := range w.far {
			w.far[a][b] = noWay
		}
		w.far[a][a] = 0
	}
	for _, track := range w.Sands.Tracks {
		w.far[track[0]][track[1]] = 1
		w.far[track[1]][track[0]] = 1
	}
	for via := range w.far {
		for a := range w.far {
			for b := range w.far {
				w.far[a][b] = least(w.far[a][b], w.far[a][via]+w.far[via][b])
			}
		}
	}
}

func least(distances ...int) int {
	out := noWay
	for _, n := range distances {
		out = min(out, n)
	}
	return out
}

// placesThat returns the places that are what they are asked to be, in increasing order.
func (w *work) placesThat(are func(place int) bool) []int {
	var out []int
	for place := range w.Sands.Places {
		if are(place) {
			out = append(out, place)
		}
	}
	return out
}

// leads reports whether a cart can go from a place to another one in a minute, or stay there.
func (w *work) leads(from, to int) bool { return w.far[from][to] <= 1 }

// next yields the places to which a cart can go from a place in a minute, in increasing order.
func (w *work) next(from int) iter.Seq[int] {
	return func(yield func(int) bool) {
		for to := range w.Sands.Places {
			if w.leads(from, to) && !yield(to) {
				return
			}
		}
	}
}

// isHeard reports whether a blast is heard at a place, if a horn is a place with a loudness.
func (w *work) isHeard(horn [2]int, place int) bool { return w.far[horn[0]][place] <= horn[1] }

// hears reports whether a blast of the fog is heard at a place.
func (w *work) hears(blast, place int) bool {
	b := w.Blasts[blast]
	return w.isHeard([2]int{b.Place, b.Loud}, place)
}
