package fog_test

import (
	"slices"

	"laurel/fog"
)

// slow answers from the chapter's terms, word for word.
type slow struct{ fog.Fog }

func (o slow) hasTrack(a, b int) bool {
	return slices.Contains(o.Sands.Tracks, [2]int{a, b}) || slices.Contains(o.Sands.Tracks, [2]int{b, a})
}

// around returns the places that are at some places, or over one track from them.
func (o slow) around(places []int) []int {
	return o.placesThat(func(p int) bool {
		return slices.ContainsFunc(places, func(q int) bool { return p == q || o.hasTrack(p, q) })
	})
}

// distance returns that of two places, and whether there is one.
func (o slow) distance(a, b int) (int, bool) {
	places := list(a)
	for n := range o.Sands.Places {
		if slices.Contains(places, b) {
			return n, true
		}
		places = o.around(places)
	}
	return 0, false
}

// isHeard reports whether a blast from a place is heard at another one.
func (o slow) isHeard(from, loud, at int) bool {
	n, is := o.distance(from, at)
	return is && n <= loud
}

func (o slow) hears(blast, at int) bool {
	return o.isHeard(o.Blasts[blast].Place, o.Blasts[blast].Loud, at)
}

func (o slow) placesThat(are func(place int) bool) []int {
	var out []int
	for place := range o.Sands.Places {
		if are(place) {
			out = append(out, place)
		}
	}
	return out
}

// walks returns all walks that begin at one of some places.
func (o slow) walks(start []int) [][]int {
	var walks [][]int
	for _, place := range start {
		walks = append(walks, list(place))
	}
	for range o.Sands.Minutes {
		var longer [][]int
		for _, walk := range walks {
			for _, place := range o.around(walk[len(walk)-1:]) {
				longer = append(longer, append(slices.Clone(walk), place))
			}
		}
		walks = longer
	}
	return walks
}

func (o slow) agrees(walk []int, r fog.Report) bool {
	return o.hears(r.Blast, walk[o.Blasts[r.Blast].Minute]) == r.Heard
}

// fitting returns all walks that fit a cart.
func (o slow) fitting(cart int) [][]int {
	var out [][]int
	for _, walk := range o.walks(o.Carts[cart].Start) {
		if !slices.ContainsFunc(o.Carts[cart].Reports, func(r fog.Report) bool { return !o.agrees(walk, r) }) {
			out = append(out, walk)
		}
	}
	return out
}

// at returns the places of some walks in a minute.
func (o slow) at(walks [][]int, minute int) []int {
	return o.placesThat(func(place int) bool { return passes(walks, minute, place) })
}

// passes reports whether some walk is at a place in a minute.
func passes(walks [][]int, minute, place int) bool {
	return slices.ContainsFunc(walks, func(walk []int) bool { return walk[minute] == place })
}

// stays returns in how many steps a walk stays.
func stays(walk []int) int {
	n := 0
	for i, place := range walk[1:] {
		if walk[i] == place {
			n++
		}
	}
	return n
}

// agreed returns a function that reports whether listed reports of a cart are agreed.
func (o slow) agreed(cart int) func(reports []int) bool {
	walks := o.walks(o.Carts[cart].Start)
	return func(reports []int) bool {
		return slices.ContainsFunc(walks, func(walk []int) bool {
			return !slices.ContainsFunc(reports, func(i int) bool { return !o.agrees(walk, o.Carts[cart].Reports[i]) })
		})
	}
}

// first returns of all lists of numbers below another one that are something the first one of the shortest ones, and whether there is one.
func first(below int, are func(l []int) bool) ([]int, bool) {
	var all [][]int
	for set := range 1 << below {
		var l []int
		for i := range below {
			if set>>i%2 == 1 {
				l = append(l, i)
			}
		}
		if are(l) {
			all = append(all, l)
		}
	}
	if len(all) == 0 {
		return nil, false
	}
	return slices.MinFunc(all, func(a, b []int) int {
		if len(a) != len(b) {
			return len(a) - len(b)
		}
		return slices.Compare(a, b)
	}), true
}

// apart returns the pairs of some places that no blast of a choice tells apart.
func (o slow) apart(places []int, choice [][2]int) [][2]int {
	var out [][2]int
	for a := range o.Sands.Places {
		for b := a + 1; b < o.Sands.Places; b++ {
			if !slices.Contains(places, a) || !slices.Contains(places, b) {
				continue
			}
			if !slices.ContainsFunc(choice, func(x [2]int) bool { return o.isHeard(x[0], x[1], a) != o.isHeard(x[0], x[1], b) }) {
				out = append(out, [2]int{a, b})
			}
		}
	}
	return out
}

// loudly returns the choice of listed places, with the same loudness each.
func loudly(places []int, loud int) [][2]int {
	var out [][2]int
	for _, place := range places {
		out = append(out, [2]int{place, loud})
	}
	return out
}

// all returns all places.
func (o slow) all() []int { return o.placesThat(func(int) bool { return true }) }

// left returns how many of some places a blast leaves, at most, whether it is heard or not.
func (o slow) left(places []int, from, loud int) int {
	var heard, unheard []int
	for _, place := range places {
		if o.isHeard(from, loud, place) {
			heard = append(heard, place)
		} else {
			unheard = append(unheard, place)
		}
	}
	return max(len(heard), len(unheard))
}
