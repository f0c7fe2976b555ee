package branch

import (
	"iter"
	"slices"

	"laurel/api"
)

// standsAfter returns where all fords are after some tides in the courses that fit, each stand once; an error if none fits.
func (w *work) standsAfter(after int) ([]stand, api.Errno) {
	goOn := w.whole().goOn()
	if goOn(w.first()) == 0 {
		return nil, api.ErrClash
	}
	stands := []stand{w.first()}
	for range after {
		met := map[stand]bool{}
		var behind []stand
		for _, x := range stands {
			for y := range w.next(x) {
				if !met[y] && goOn(y) > 0 {
					met[y] = true
					behind = append(behind, y)
				}
			}
		}
		stands = behind
	}
	return stands, api.OK
}

// cellsThat returns the cells that are what they are asked to be.
func (w *work) cellsThat(are func(cell int) bool) []int {
	var out []int
	for cell := range w.Cells {
		if are(cell) {
			out = append(out, cell)
		}
	}
	return out
}

// always returns the cells in which some ford is in all courses that fit, or those in which none is in any of them.
func always(c Channel, after int, isIn bool) ([]int, api.Errno) {
	w, e := beginAfter(c, after)
	if e != api.OK {
		return nil, e
	}
	stands, e := w.standsAfter(after)
	if e != api.OK {
		return nil, e
	}
	return w.cellsThat(func(cell int) bool {
		return every(stands, func(x stand) bool { return w.hasFord(x, cell) == isIn })
	}), api.OK
}

// fate returns that of a ford, by all stands in which it can be after all tides.
func (w *work) fate(ford int, stands []stand) Fate {
	stays := func(x stand) bool { return x.cells[ford] == w.Fords[ford] }
	switch {
	case every(stands, stays):
		return Stays
	case !slices.ContainsFunc(stands, stays):
		return Moved
	}
	return Open
}

// astray returns how many fords are in other cells than at first.
func (w *work) astray(x stand) int {
	many := 0
	for ford, cell := range w.Fords {
		if x.cells[ford] != cell {
			many++
		}
	}
	return many
}

// spanAtLast returns the least and the greatest of a number of all stands after all tides; an error if no course fits.
func (w *work) spanAtLast(number func(stand) int) (api.Span, api.Errno) {
	stands, e := w.standsAfter(w.Tides)
	if e != api.OK {
		return api.Span{}, e
	}
	var numbers []int
	for _, x := range stands {
		numbers = append(numbers, number(x))
	}
	return api.Span{Lo: least(numbers...), Hi: slices.Max(numbers)}, api.OK
}

// with returns the channel with one sight more; its lists are copies, as the given ones must stay.
func (w *work) with(s Sight) Channel {
	c := w.Channel
	c.Fords, c.Sands = slices.Clone(w.Fords), slices.Clone(w.Sands)
	c.Sights = make([]Sight, len(w.Sights)+1)
	copy(c.Sights, w.Sights)
	c.Sights[len(w.Sights)] = s
	return c
}

// agreed reports whether some course agrees with all of some sights.
func (w *work) agreed(sights []int) bool {
	v := view{work: w, counts: func(sight int) bool { return slices.Contains(sights, sight) }}
	return v.count() > 0
}

// others returns all sights that are not listed.
func (w *work) others(sights []int) []int {
	var out []int
	for i := range w.Sights {
		if !slices.Contains(sights, i) {
			out = append(out, i)
		}
	}
	return out
}

// fewest returns the first of the shortest lists of sights that are what they are asked to be, and whether there is one.
func (w *work) fewest(are func(sights []int) bool) (sights []int, found bool) {
search:
	for size := range len(w.Sights) + 1 {
		for list := range w.lists(size) {
			if are(list) {
				sights, found = list, true
				break search
			}
		}
	}
	return sights, found
}

// lists yields all lists of so many sights in increasing order, the lists in lexicographic order; each one is new.
func (w *work) lists(size int) iter.Seq[[]int] {
	return func(yield func([]int) bool) {
		var choose func(list []int, from int) bool
		choose = func(list []int, from int) bool {
			if len(list) == size {
				return yield(list)
			}
			for i := from; i < len(w.Sights); i++ {
				if !choose(append(slices.Clone(list), i), i+1) {
					return false
				}
			}
			return true
		}
		choose(nil, 0)
	}
}

// ask returns the sight that leaves the fewest courses at most, and how many.
func (w *work) ask() (Sight, int) {
	all := w.whole().count()
	var best Sight
	fewest := all + 1
	for cell := range w.Cells {
		s := Sight{After: w.Tides, Cell: cell, Upright: true}
		agree := started(w.with(s)).whole().count()
		if most := max(agree, all-agree); most < fewest {
			best, fewest = s, most
		}
	}
	return best, fewest
}
