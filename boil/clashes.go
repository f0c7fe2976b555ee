package boil

import (
	"iter"
	"slices"

	"laurel/api"
)

// findClashes finds which weighings clash.
func (w *work) findClashes() {
	for a, x := range w.Weighings {
		for b, y := range w.Weighings {
			w.clashes[a][b] = w.isUnder(x.Month, y.Month) && isGreater(w.ratios[a].least, w.ratios[b].greatest)
		}
	}
}

// clashing yields the weighings that one clashes with, it being above them.
func (w *work) clashing(a int) iter.Seq[int] {
	return func(yield func(int) bool) {
		for b := range w.Weighings {
			if w.clashes[a][b] && !yield(b) {
				return
			}
		}
	}
}

// agree reports whether all weighings do.
func (w *work) agree() bool { return w.clashes == table{} }

// first returns the first pair that clashes, or the empty pair if there is none, as no weighing clashes with itself.
func (w *work) first() Pair {
	var pair Pair
search:
	for a := range w.Weighings {
		for b := range w.clashing(a) {
			pair = Pair{A: a, B: b}
			break search
		}
	}
	return pair
}

// proof returns as many pairs as can be of which a proof can be made, in the order of A.
func (w *work) proof() []Pair {
	aboveOf := map[int]int{}
	for a := range w.Weighings {
		w.join(a, aboveOf, map[int]bool{})
	}
	var pairs []Pair
	for b, a := range aboveOf {
		pairs = append(pairs, Pair{A: a, B: b})
	}
	slices.SortFunc(pairs, func(p, q Pair) int { return p.A - q.A })
	return pairs
}

// join makes a weighing the A of a pair, and reports whether it could. A weighing that it clashes with may be the B of another
// one already, which is then joined anew, to one that was not tried yet.
func (w *work) join(a int, aboveOf map[int]int, tried map[int]bool) bool {
	for b := range w.clashing(a) {
		if tried[b] {
			continue
		}
		tried[b] = true
		other, taken := aboveOf[b]
		if !taken || w.join(other, aboveOf, tried) {
			aboveOf[b] = a
			return true
		}
	}
	return false
}

// proofError returns the error of pairs that are to be a proof.
func (w *work) proofError(pairs []Pair) api.Errno {
	for i, p := range pairs {
		switch {
		case !w.isWeighing(p.A) || !w.isWeighing(p.B):
			return api.ErrMissing
		case !w.clashes[p.A][p.B]:
			return api.ErrWrong
		case slices.ContainsFunc(pairs[:i], func(q Pair) bool { return p.A == q.A || p.B == q.B }):
			return api.ErrAgain
		}
	}
	return api.OK
}
