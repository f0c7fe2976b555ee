package branch

import (
	"iter"
	"slices"
)

// noCourse stands for the moves of a course that does not fit: no course has as many.
const noCourse = MaxFords*MaxTides*MaxReach + 1

// cells are those of all fords, from the left to the right; those that are not needed are 0.
type cells [MaxFords]int

// stand is where all fords are after some tides.
type stand struct {
	after int
	cells cells
}

// cellsOf makes cells of a list that is not longer.
func cellsOf(list []int) cells {
	var out cells
	copy(out[:], list)
	return out
}

func (w *work) first() stand { return stand{cells: cellsOf(w.Fords)} }

// listed returns the cells of a stand as a list of its own.
func (w *work) listed(x stand) []int { return slices.Clone(x.cells[:len(w.Fords)]) }

func (w *work) hasFord(x stand, cell int) bool {
	return slices.Contains(x.cells[:len(w.Fords)], cell)
}

// next yields each stand to which the tide can bring fords from another one, in lexicographic order.
func (w *work) next(x stand) iter.Seq[stand] {
	return func(yield func(stand) bool) {
		y := stand{after: x.after + 1}
		var choose func(ford, free int) bool
		choose = func(ford, free int) bool {
			if ford == len(w.Fords) {
				return yield(y)
			}
			from := x.cells[ford]
			reach := w.reaches[from]
			for cell := max(from-reach, free); cell <= min(from+reach, w.Cells-1); cell++ {
				y.cells[ford] = cell
				if !choose(ford+1, cell+1) {
					return false
				}
			}
			return true
		}
		choose(0, 0)
	}
}

// follow returns the stands of a course, and whether it is one.
func (w *work) follow(course [][]int) ([]stand, bool) {
	hasAll := func(list []int) bool { return len(list) == len(w.Fords) }
	if len(course) != w.Tides+1 || !every(course, hasAll) {
		return nil, false
	}
	at := w.first()
	if cellsOf(course[0]) != at.cells {
		return nil, false
	}
	stands := []stand{at}
	for _, list := range course[1:] {
		y := stand{after: at.after + 1, cells: cellsOf(list)}
		if !w.leads(at, y) {
			return nil, false
		}
		stands = append(stands, y)
		at = y
	}
	return stands, true
}

// leads reports whether a tide can bring fords from a stand to another one.
func (w *work) leads(x, y stand) bool {
	for other := range w.next(x) {
		if other == y {
			return true
		}
	}
	return false
}

// moves returns by how many cells all fords move between two stands.
func (w *work) moves(x, y stand) int {
	sum := 0
	for ford := range w.Fords {
		sum += max(x.cells[ford]-y.cells[ford], y.cells[ford]-x.cells[ford])
	}
	return sum
}

// view is a channel of whose sights some count.
type view struct {
	*work
	counts func(sight int) bool
}

// whole is a view in which all sights count.
func (w *work) whole() view {
	return view{work: w, counts: func(int) bool { return true }}
}

// agrees reports whether a stand agrees with all sights after its tides that count.
func (v view) agrees(x stand) bool {
	for i, s := range v.Sights {
		if s.After == x.after && v.counts(i) && v.hasFord(x, s.Cell) != s.Upright {
			return false
		}
	}
	return true
}

// rest is a number of all courses that go on from a stand: what it is if there is none, what it is at the end, and how it is made of the stands behind.
type rest struct {
	none, end int
	made      func(x stand, number func(stand) int) int
}

// found returns a function that finds this number of any stand, each one once.
func (v view) found(r rest) func(stand) int {
	kept := map[stand]int{}
	var number func(stand) int
	number = func(x stand) int {
		if !v.agrees(x) {
			return r.none
		}
		if x.after == v.Tides {
			return r.end
		}
		n, known := kept[x]
		if !known {
			n = r.made(x, number)
			kept[x] = n
		}
		return n
	}
	return number
}

// goOn tells how many courses go on from any stand.
func (v view) goOn() func(stand) int {
	return v.found(rest{none: 0, end: 1, made: func(x stand, number func(stand) int) int {
		sum := 0
		for y := range v.next(x) {
			sum += number(y)
		}
		return sum
	}})
}

// count returns how many courses agree with all sights that count.
func (v view) count() int {
	goOn := v.goOn()
	return goOn(v.first())
}

// movesOn tells how few moves there can be from any stand to the end.
func (v view) movesOn() func(stand) int {
	return v.found(rest{none: noCourse, end: 0, made: func(x stand, number func(stand) int) int {
		numbers := []int{noCourse}
		for y := range v.next(x) {
			numbers = append(numbers, v.moves(x, y)+number(y))
		}
		return least(numbers...)
	}})
}

func least(numbers ...int) int {
	out := numbers[0]
	for _, n := range numbers {
		out = min(out, n)
	}
	return out
}

// calm returns a course with as few moves as can be, and these; nil if none agrees with all sights that count.
func (v view) calm() (course [][]int, moves int) {
	movesOn := v.movesOn()
	at := v.first()
	moves = movesOn(at)
	if moves == noCourse {
		return nil, 0
	}
	course = [][]int{v.listed(at)}
	for range v.Tides {
		at = v.calmest(at, movesOn)
		course = append(course, v.listed(at))
	}
	return course, moves
}

// calmest returns the first stand behind another one that keeps its moves as few as they can be.
func (v view) calmest(x stand, movesOn func(stand) int) stand {
	fewest := movesOn(x)
	for y := range v.next(x) {
		if v.moves(x, y)+movesOn(y) == fewest {
			return y
		}
	}
	return x
}
