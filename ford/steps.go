package ford

import "iter"

// moment is a place at a minute.
type moment struct {
	*work
	place, minute int
}

// isDry reports whether the place is dry then, in a truth.
func (m moment) isDry(truth int) bool {
	for _, x := range m.Truths[truth].Dry[m.place] {
		if within(m.minute, x.Lo, x.Hi) {
			return true
		}
	}
	return false
}

// setOf returns the set of the truths that are what they are asked to be.
func (w *work) setOf(is func(truth int) bool) int {
	set := 0
	for truth := range w.Truths {
		if is(truth) {
			set |= 1 << truth
		}
	}
	return set
}

// parts returns the parts of a set of truths that are seen at a place, in the order of what is seen.
func (w *work) parts(place, left int) []int {
	var byLook [MaxLook + 1]int
	for truth, looks := range w.Looks {
		byLook[looks[place]] |= left & (1 << truth)
	}
	var out []int
	for _, part := range byLook {
		if part != 0 {
			out = append(out, part)
		}
	}
	return out
}

// split returns a state with each part of its truths that is seen at its place.
func (w *work) split(x State) []State {
	var out []State
	for _, part := range w.parts(x.Place, x.Left) {
		out = append(out, State{Place: x.Place, Minute: x.Minute, Left: part})
	}
	return out
}

// isSafe reports whether a state is safe.
func (w *work) isSafe(x State) bool {
	return x.Left != 0 && x.Left&^w.dry[x.Place][x.Minute] == 0
}

// steps yields all allowed steps from a state, in the order of To; none if the state is not safe.
func (w *work) steps(x State) iter.Seq[Step] {
	return func(yield func(Step) bool) {
		if !w.isSafe(x) {
			return
		}
		for _, t := range w.from[x.Place] {
			if w.isAllowed(x, t) && !yield(t) {
				return
			}
		}
	}
}

// isAllowed reports whether a step that there is ends in time, and comes to safe states alone.
func (w *work) isAllowed(x State, t Step) bool {
	return x.Minute+t.Minutes <= w.Last && every(w.after(x, t), w.isSafe)
}

// canStep reports whether a step is one of the allowed steps from a state.
func (w *work) canStep(x State, t Step) bool {
	for allowed := range w.steps(x) {
		if allowed == t {
			return true
		}
	}
	return false
}

// after returns the states that a step comes to.
func (w *work) after(x State, t Step) []State {
	return w.split(State{Place: t.To, Minute: x.Minute + t.Minutes, Left: x.Left})
}

// isWork reports whether a step from a place is to wait at the bed.
func (w *work) isWork(place int, t Step) bool { return place == w.Bed && t.To == w.Bed }

// firstOf returns the set of the first one of some truths.
func firstOf(left int) int { return left & -left }

// stateIn returns that one of some states in which a truth is left.
func stateIn(states []State, truth int) State {
	for _, x := range states {
		if x.Left&truth != 0 {
			return x
		}
	}
	return State{}
}
