package fog

// choice returns the one of some places, all with the same loudness.
func choice(places []int, loud int) [][2]int {
	var horns [][2]int
	for _, place := range places {
		horns = append(horns, [2]int{place, loud})
	}
	return horns
}

// everywhere returns the choice of all places with the same loudness.
func (w *work) everywhere(loud int) [][2]int {
	return choice(w.placesThat(w.isPlace), loud)
}

// apart returns the pairs of some places that no blast of a choice tells apart.
func (w *work) apart(places []int, horns [][2]int) [][2]int {
	var pairs [][2]int
	for i, a := range places {
		for _, b := range places[i+1:] {
			if every(horns, func(horn [2]int) bool { return w.isHeard(horn, a) == w.isHeard(horn, b) }) {
				pairs = append(pairs, [2]int{a, b})
			}
		}
	}
	return pairs
}

// ask returns the first place whose blast leaves the fewest of some places, at most, and how many.
func (w *work) ask(places []int, loud int) (place, most int) {
	most = len(places) + 1
	for from := range w.Sands.Places {
		heard := 0
		for _, at := range places {
			if w.isHeard([2]int{from, loud}, at) {
				heard++
			}
		}
		if n := max(heard, len(places)-heard); n < most {
			place, most = from, n
		}
	}
	return place, most
}
