package shut

import (
	"iter"
	"slices"

	"laurel/api"
)

// with returns the shore with one test more; its lists are copies, as the given ones must stay.
func (w *work) with(t Test) Shore {
	s := w.Shore
	s.Drains, s.Rains, s.Sacks = slices.Clone(w.Drains), slices.Clone(w.Rains), slices.Clone(w.Sacks)
	for i, d := range s.Drains {
		s.Drains[i].Beds = slices.Clone(d.Beds)
	}
	for i, x := range s.Sacks {
		s.Sacks[i].Beds = slices.Clone(x.Beds)
	}
	s.Tests = make([]Test, len(w.Tests)+1)
	copy(s.Tests, w.Tests)
	s.Tests[len(w.Tests)] = t
	return s
}

// agreed reports whether some truth agrees with all of some tests.
func (w *work) agreed(tests []int) bool {
	v := view{work: w, counts: func(test int) bool { return slices.Contains(tests, test) }}
	for range v.fitting() {
		return true
	}
	return false
}

// fewest returns the first of the shortest lists of numbers below another one that are what they are asked to be; an error if there is none.
func fewest(below int, are func(list []int) bool) (list []int, e api.Errno) {
	e = api.ErrNone
search:
	for size := range below + 1 {
		for some := range lists(below, size) {
			if are(some) {
				list, e = some, api.OK
				break search
			}
		}
	}
	return list, e
}

// lists yields all lists of so many numbers below another one in increasing order, the lists in lexicographic order; each one is new.
func lists(below, size int) iter.Seq[[]int] {
	return func(yield func([]int) bool) {
		var choose func(list []int, from int) bool
		choose = func(list []int, from int) bool {
			if len(list) == size {
				return yield(list)
			}
			for n := from; n < below; n++ {
				if !choose(append(slices.Clone(list), n), n+1) {
					return false
				}
			}
			return true
		}
		choose(nil, 0)
	}
}
