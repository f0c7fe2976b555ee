package boil

import (
	"slices"

	"laurel/api"
)

// search looks for false sets of weighings, each of which it tells.
type search struct {
	*work
	tell func(set []int)
}

// sets tells all false sets of so many weighings, in lexicographic order.
func (s search) sets(size int) {
	gone := map[int]bool{}
	var put func(from int)
	put = func(from int) {
		if len(gone) == size {
			if s.agreeWithout(gone) {
				s.tell(numbersThat(len(s.Weighings), func(n int) bool { return gone[n] }))
			}
			return
		}
		for n := from; n < len(s.Weighings); n++ {
			gone[n] = true
			put(n + 1)
			delete(gone, n)
		}
	}
	put(0)
}

// agreeWithout reports whether all weighings agree save those that are gone.
func (w *work) agreeWithout(gone map[int]bool) bool {
	for a := range w.Weighings {
		if gone[a] {
			continue
		}
		for b := range w.clashing(a) {
			if !gone[b] {
				return false
			}
		}
	}
	return true
}

// smallest returns all false sets with the fewest weighings, in lexicographic order. A proof spares the search for smaller ones.
func (w *work) smallest() [][]int {
	var sets [][]int
	s := search{work: w, tell: func(set []int) { sets = append(sets, set) }}
	for size := len(w.proof()); len(sets) == 0; size++ {
		s.sets(size)
	}
	return sets
}

// trusted returns the weighings that are in no smallest false set.
func (w *work) trusted() []int {
	sets := w.smallest()
	return numbersThat(len(w.Weighings), func(n int) bool {
		return !slices.ContainsFunc(sets, func(set []int) bool { return slices.Contains(set, n) })
	})
}

// goneOf returns which weighings a list names, or the error of the list.
func (w *work) goneOf(list []int) (map[int]bool, api.Errno) {
	gone := map[int]bool{}
	for _, n := range list {
		switch {
		case !w.isWeighing(n):
			return nil, api.ErrMissing
		case gone[n]:
			return nil, api.ErrAgain
		}
		gone[n] = true
	}
	return gone, api.OK
}

// without returns the house without the weighings that are gone; its list is a copy, as the given one must stay.
func (w *work) without(gone map[int]bool) House {
	h := w.House
	h.Weighings = slices.Clone(w.Weighings)
	for n := range slices.Backward(w.Weighings) {
		if gone[n] {
			h.Weighings = slices.Delete(h.Weighings, n, n+1)
		}
	}
	return h
}
