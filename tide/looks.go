package tide

import "laurel/api"

// truths returns the span of the truths that agree with a look; it is empty if none does.
func (w *work) truths(look Look) api.Span {
	driest := w.gates[look.Place] - w.height(look.Minute)
	if look.Wet {
		return common(w.Wind, api.Span{Lo: driest + 1, Hi: MaxWind})
	}
	return common(w.Wind, api.Span{Lo: -MaxWind, Hi: driest})
}

// common returns the numbers that two spans have in common; it ends before it begins if there are none.
func common(a, b api.Span) api.Span {
	return api.Span{Lo: max(a.Lo, b.Lo), Hi: min(a.Hi, b.Hi)}
}

// size returns how many numbers a span has.
func size(s api.Span) int { return max(0, s.Hi-s.Lo+1) }

// clash returns the first of the shortest lists of looks that no truth agrees with, or nil.
// Spans each two of which meet have a number in common, so that no more than two looks are ever needed.
func (w *work) clash(looks []Look) []int {
	for i, look := range looks {
		if size(w.truths(look)) == 0 {
			return []int{i}
		}
	}
	for i, a := range looks {
		for j, b := range looks[i+1:] {
			if size(common(w.truths(a), w.truths(b))) == 0 {
				return []int{i, i + 1 + j}
			}
		}
	}
	return nil
}

// ask returns the look that leaves the fewest truths at most, and how many.
func (w *work) ask() (Look, int) {
	all := size(w.Wind)
	var best Look
	fewest := all
	for i := range w.last() - w.first() + 1 {
		for place := range w.Floors {
			look := Look{Minute: w.first() + i, Place: place, Wet: true}
			agree := size(w.truths(look))
			most := max(agree, all-agree)
			// A look that was found is Wet, so the zero Look stands for none yet.
			if best == (Look{}) || most < fewest {
				best, fewest = look, most
			}
		}
	}
	return best, fewest
}
