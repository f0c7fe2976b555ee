package branch_test

import (
	"math/rand"
	"reflect"
	"slices"
	"testing"

	"laurel/api"
	"laurel/branch"
)

// one is the channel of the chapter's examples, with so many tides and some sights.
func one(tides int, sights ...branch.Sight) branch.Channel {
	return branch.Channel{Cells: 6, Tides: tides, Fords: list(1, 4), Sands: sands(sand(0, 2, 1)), Sights: sights}
}

// two is that channel after its tide, the branch in cell 1 being gone.
func two() branch.Channel { return one(1, gone(1, 1)) }

// near has fords side by side in cells that all can move by 2.
func near() branch.Channel {
	return branch.Channel{Cells: 5, Tides: 1, Fords: list(1, 2, 3), Sands: sands(sand(0, 4, 2))}
}

// widest is as large as channels can be.
func widest() branch.Channel {
	return branch.Channel{
		Cells: 10, Tides: 4, Fords: list(2, 4, 7),
		Sands:  sands(sand(0, 9, 2), sand(0, 9, 1), sand(3, 3, 2), sand(9, 9, 1)),
		Sights: []branch.Sight{up(0, 2), gone(4, 9), gone(4, 8), gone(3, 9), up(4, 4), gone(1, 0), gone(2, 9), gone(0, 0)},
	}
}

func list(n ...int) []int                  { return n }
func span(lo, hi int) api.Span             { return api.Span{Lo: lo, Hi: hi} }
func sands(s ...branch.Sand) []branch.Sand { return s }
func sand(lo, hi, reach int) branch.Sand   { return branch.Sand{Span: span(lo, hi), Reach: reach} }
func up(after, cell int) branch.Sight      { return branch.Sight{After: after, Cell: cell, Upright: true} }
func gone(after, cell int) branch.Sight    { return branch.Sight{After: after, Cell: cell} }
func fates(f ...branch.Fate) []branch.Fate { return f }
func sameLists(a, b [][]int) bool          { return slices.EqualFunc(a, b, slices.Equal) }

// among reports whether a list is one of several.
func among(lists [][]int, l []int) bool {
	return slices.ContainsFunc(lists, func(x []int) bool { return slices.Equal(x, l) })
}

// with returns a channel with one sight more, whether it is allowed or not.
func with(c branch.Channel, s branch.Sight) branch.Channel {
	c = copied(c)
	c.Sights = append(c.Sights, s)
	return c
}

// copied returns a channel that shares no memory with another one.
func copied(c branch.Channel) branch.Channel {
	c.Fords, c.Sands, c.Sights = slices.Clone(c.Fords), slices.Clone(c.Sands), slices.Clone(c.Sights)
	return c
}

// zero reports whether all results are zero; an empty list is as good as nil.
func zero(results ...any) bool {
	for _, x := range results {
		v := reflect.ValueOf(x)
		if v.Kind() == reflect.Slice && v.Len() == 0 || v.IsZero() {
			continue
		}
		if c, ok := x.(branch.Channel); ok && c.Cells == 0 && c.Tides == 0 && len(c.Fords)+len(c.Sands)+len(c.Sights) == 0 {
			continue
		}
		return false
	}
	return true
}

// slow answers from the chapter's terms, word for word.
type slow struct{ branch.Channel }

func (o slow) reach(cell int) int {
	greatest := 0
	for _, s := range o.Sands {
		for n := s.Span.Lo; n <= s.Span.Hi; n++ {
			if n == cell && s.Reach > greatest {
				greatest = s.Reach
			}
		}
	}
	return greatest
}

// rows returns all lists of as many cells as there are fords, in strictly increasing order.
func (o slow) rows() [][]int {
	rows := [][]int{nil}
	for range o.Fords {
		var longer [][]int
		for _, row := range rows {
			for cell := range o.Cells {
				if len(row) == 0 || row[len(row)-1] < cell {
					longer = append(longer, append(slices.Clone(row), cell))
				}
			}
		}
		rows = longer
	}
	return rows
}

// leads reports whether each ford moves by at most the reach of the cell in which it is before.
func (o slow) leads(before, after []int) bool {
	for i, from := range before {
		if after[i] > from+o.reach(from) || after[i] < from-o.reach(from) {
			return false
		}
	}
	return true
}

func (o slow) isCourse(course [][]int) bool {
	if len(course) != o.Tides+1 || !slices.Equal(course[0], o.Fords) {
		return false
	}
	rows := o.rows()
	for i, row := range course {
		if !among(rows, row) || i > 0 && !o.leads(course[i-1], row) {
			return false
		}
	}
	return true
}

// courses returns all courses, whether they fit or not.
func (o slow) courses() [][][]int {
	courses := [][][]int{{o.Fords}}
	rows := o.rows()
	for range o.Tides {
		var longer [][][]int
		for _, course := range courses {
			for _, row := range rows {
				if o.leads(course[len(course)-1], row) {
					longer = append(longer, append(slices.Clone(course), row))
				}
			}
		}
		courses = longer
	}
	return courses
}

func agrees(course [][]int, s branch.Sight) bool {
	return slices.Contains(course[s.After], s.Cell) == s.Upright
}

func agreesWithAll(course [][]int, sights []branch.Sight) bool {
	return !slices.ContainsFunc(sights, func(s branch.Sight) bool { return !agrees(course, s) })
}

// fitting returns all courses that fit.
func (o slow) fitting() [][][]int {
	var out [][][]int
	for _, course := range o.courses() {
		if agreesWithAll(course, o.Sights) {
			out = append(out, course)
		}
	}
	return out
}

// moves returns those of a course.
func moves(course [][]int) int {
	sum := 0
	for i, row := range course[1:] {
		for ford, cell := range row {
			if from := course[i][ford]; from < cell {
				sum += cell - from
			} else {
				sum += from - cell
			}
		}
	}
	return sum
}

// cellsThat returns the cells for which something is so.
func (o slow) cellsThat(is func(cell int) bool) []int {
	var out []int
	for cell := range o.Cells {
		if is(cell) {
			out = append(out, cell)
		}
	}
	return out
}

// spanOf returns the least and the greatest of the numbers of courses.
func spanOf(courses [][][]int, number func(course [][]int) int) api.Span {
	out := span(number(courses[0]), number(courses[0]))
	for _, course := range courses {
		out.Lo, out.Hi = min(out.Lo, number(course)), max(out.Hi, number(course))
	}
	return out
}

// lists returns all lists of sights that are something, each in increasing order: the shorter ones first, then in lexicographic order.
func (o slow) lists(are func(sights []int) bool) [][]int {
	var out [][]int
	for set := range 1 << len(o.Sights) {
		var l []int
		for i := range o.Sights {
			if set>>i%2 == 1 {
				l = append(l, i)
			}
		}
		if are(l) {
			out = append(out, l)
		}
	}
	slices.SortFunc(out, func(a, b []int) int {
		if len(a) != len(b) {
			return len(a) - len(b)
		}
		return slices.Compare(a, b)
	})
	return out
}

// agreed returns a function that reports whether some course agrees with listed sights.
func (o slow) agreed() func(sights []int) bool {
	courses := o.courses()
	return func(sights []int) bool {
		return slices.ContainsFunc(courses, func(course [][]int) bool {
			return !slices.ContainsFunc(sights, func(i int) bool { return !agrees(course, o.Sights[i]) })
		})
	}
}

// others returns all sights that are not listed.
func (o slow) others(sights []int) []int {
	var out []int
	for i := range o.Sights {
		if !slices.Contains(sights, i) {
			out = append(out, i)
		}
	}
	return out
}

// anySights returns sights most of which a course agrees with.
func anySights(r *rand.Rand, c branch.Channel) []branch.Sight {
	courses := slow{c}.courses()
	course := courses[r.Intn(len(courses))]
	wrong := r.Intn(4)
	var out []branch.Sight
	for range r.Intn(7) {
		s := gone(r.Intn(c.Tides+1), r.Intn(c.Cells))
		if r.Intn(2) == 0 {
			s.Cell = course[s.After][r.Intn(len(c.Fords))]
		}
		s.Upright = slices.Contains(course[s.After], s.Cell)
		if r.Intn(4) < wrong {
			s.Upright = r.Intn(2) == 0
		}
		out = append(out, s)
	}
	return out
}

// anyChannel returns a small channel.
func anyChannel(r *rand.Rand) branch.Channel {
	c := branch.Channel{Cells: 2 + r.Intn(5), Tides: r.Intn(4)}
	c.Fords = r.Perm(c.Cells)[:1+r.Intn(min(3, c.Cells))]
	slices.Sort(c.Fords)
	if len(c.Fords) == 1 {
		c.Tides = r.Intn(5)
	}
	for range r.Intn(4) {
		lo := r.Intn(c.Cells)
		c.Sands = append(c.Sands, sand(lo, lo+r.Intn(c.Cells-lo), 1+r.Intn(2)))
	}
	c.Sights = anySights(r, c)
	return c
}

// forMany asks something of many channels.
func forMany(t *testing.T, times int, ask func(r *rand.Rand, c branch.Channel)) {
	t.Helper()
	r := rand.New(rand.NewSource(3))
	for range times {
		ask(r, anyChannel(r))
		if t.Failed() {
			return
		}
	}
}
