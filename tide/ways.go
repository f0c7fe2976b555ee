package tide

import "iter"

// on yields each sill that leads on from a place (or from the Sea), and the place to which it leads.
// No sill leads on to the Sea, as each way begins there.
func (w *work) on(from int) iter.Seq2[int, int] {
	return func(yield func(sill, to int) bool) {
		for i, x := range w.Sills {
			to := x.otherEnd(from)
			if to != Sea && !yield(i, to) {
				return
			}
		}
	}
}

// otherEnd returns where a sill leads from a place; a sill that does not join this place leads nowhere, as one to the Sea.
func (x Sill) otherEnd(from int) int {
	switch from {
	case x.A:
		return x.B
	case x.B:
		return x.A
	}
	return Sea
}

// step returns how high water must come to go over a sill to a place.
func (w *work) step(sill, to int) int {
	return greatest(w.Sills[sill].Height, w.Floors[to])
}

// allGates lowers the gates of all places until none gets lower.
func (w *work) allGates() [MaxPlaces]int {
	var gates [MaxPlaces]int
	for place := range gates {
		gates[place] = noGate
	}
	for {
		lower := w.lowered(gates)
		if lower == gates {
			return gates
		}
		gates = lower
	}
}

// lowered returns gates that are lowered by one sill more on each way.
func (w *work) lowered(gates [MaxPlaces]int) [MaxPlaces]int {
	for sill, to := range w.on(Sea) {
		gates[to] = min(gates[to], w.step(sill, to))
	}
	for from := range w.Floors {
		for sill, to := range w.on(from) {
			gates[to] = min(gates[to], greatest(gates[from], w.step(sill, to)))
		}
	}
	return gates
}

// ways returns a way to each place to which the sills lead that may be taken; the others have none.
func (w *work) ways(may func(sill, to int) bool) [MaxPlaces][]int {
	var ways [MaxPlaces][]int
	var reached []int
	lead := func(from int, way []int) {
		for sill, to := range w.on(from) {
			if ways[to] == nil && may(sill, to) {
				ways[to] = longer(way, sill)
				reached = append(reached, to)
			}
		}
	}
	lead(Sea, nil)
	for len(reached) > 0 {
		from := reached[0]
		reached = reached[1:]
		lead(from, ways[from])
	}
	return ways
}

// longer returns a way with one sill more; it is a copy, as the way may go on over other sills, too.
func longer(way []int, sill int) []int {
	out := make([]int, len(way)+1)
	copy(out, way)
	out[len(way)] = sill
	return out
}

// follow returns the place to which a way leads, and its crest; a list that is no way ends in the Sea.
func (w *work) follow(way []int) (end, crest int) {
	var met [MaxPlaces]bool
	end = Sea
	for _, sill := range way {
		to := w.Sills[sill].otherEnd(end)
		if to == Sea || met[to] {
			return Sea, 0
		}
		met[to] = true
		crest = greatest(crest, w.step(sill, to))
		end = to
	}
	return end, crest
}

// bank returns a bank of this height for all places whose gates are not lower.
// Each way to such a place leaves the places with lower gates somewhere: over a sill, or to a floor, that is high enough.
func (w *work) bank(height int) (sills, places []int) {
	inSills, inPlaces := make([]bool, len(w.Sills)), make([]bool, len(w.Floors))
	leave := func(from int) {
		for sill, to := range w.on(from) {
			if w.gates[to] < height {
				continue
			}
			if w.Sills[sill].Height >= height {
				inSills[sill] = true
			} else {
				inPlaces[to] = true
			}
		}
	}
	leave(Sea)
	for place := range w.Floors {
		if w.gates[place] < height {
			leave(place)
		}
	}
	return marked(inSills), marked(inPlaces)
}

// marked returns the numbers that are marked, in increasing order.
func marked(marks []bool) []int {
	var out []int
	for i, is := range marks {
		if is {
			out = append(out, i)
		}
	}
	return out
}

// counted returns how often each number is in a list.
func counted(list []int) map[int]int {
	counts := map[int]int{}
	for _, n := range list {
		counts[n]++
	}
	return counts
}

// least returns the least of the heights of sills and of the floors of places.
func (w *work) least(sills, places []int) int {
	height := MaxHeight
	for _, sill := range sills {
		height = min(height, w.Sills[sill].Height)
	}
	for _, place := range places {
		height = min(height, w.Floors[place])
	}
	return height
}

func greatest(heights ...int) int {
	most := 0
	for _, h := range heights {
		most = max(most, h)
	}
	return most
}
