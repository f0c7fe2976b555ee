package branch_test

import (
	"math"
	"math/rand"
	"slices"
	"testing"

	"laurel/api"
	"laurel/branch"
)

// P3.2: lists that are courses, or not, and whether they fit.
func TestFits(t *testing.T) {
	ends := one(1)
	ends.Fords, ends.Sands = list(0, 5), sands(sand(0, 5, 2))
	left := branch.Channel{Cells: 2, Tides: 1, Fords: list(0)}
	for i, x := range []struct {
		c      branch.Channel
		course [][]int
		is     bool
	}{
		{one(1), [][]int{{1, 4}, {0, 4}}, true}, // example 1
		{one(1), [][]int{{1, 4}, {1, 4}}, true},
		{one(1), [][]int{{1, 4}, {2, 4}}, true},
		{one(1), [][]int{{1, 4}, {3, 4}}, false},
		{one(1), [][]int{{1, 4}, {-1, 4}}, false},
		{one(1), [][]int{{1, 4}, {1, 5}}, false}, // no quicksand is in cell 4
		{one(1), [][]int{{1, 4}, {1, 3}}, false},
		{one(1), [][]int{{0, 4}, {1, 4}}, false}, // not as at first
		{one(1), [][]int{{1, 3}, {1, 4}}, false},
		{one(1), [][]int{{4, 1}, {1, 4}}, false},
		{one(1), [][]int{{1, 4}, {4, 1}}, false},
		{one(1), [][]int{{1, 4}}, false},
		{one(1), [][]int{{1, 4}, {1, 4}, {1, 4}}, false},
		{one(1), [][]int{{1, 4}, {1}}, false},
		{one(1), [][]int{{1}, {1, 4}}, false},
		{one(1), [][]int{{1, 4}, {1, 4, 5}}, false},
		{one(1), [][]int{{1, 4, 0}, {1, 4}}, false},
		{one(1), [][]int{{1, 4, 0}, {1, 4, 0}}, false},
		{one(1), [][]int{{1, 4, 5, 6}, {1, 4, 5, 6}}, false},
		{one(1), [][]int{{1, 4}, nil}, false},
		{one(1), [][]int{nil, {1, 4}}, false},
		{one(1), nil, false},
		{one(1), [][]int{}, false},
		{one(1), [][]int{{1, 4}, {math.MinInt, math.MaxInt}}, false},
		{one(1), [][]int{{1, 4}, {math.MaxInt, math.MinInt}}, false},
		{one(0), [][]int{{1, 4}}, true},
		{one(0), [][]int{{1, 5}}, false},
		{one(0), [][]int{{1, 4}, {1, 4}}, false},
		{one(0), nil, false},
		{one(2), [][]int{{1, 4}, {2, 4}, {3, 4}}, true}, // example 5
		{one(2), [][]int{{1, 4}, {1, 4}, {3, 4}}, false},
		{one(3), [][]int{{1, 4}, {2, 4}, {3, 4}, {3, 4}}, true},
		{one(3), [][]int{{1, 4}, {2, 4}, {3, 4}, {2, 4}}, false}, // no farther
		{two(), [][]int{{1, 4}, {1, 4}}, false},
		{two(), [][]int{{1, 4}, {2, 4}}, true},
		{two(), [][]int{{1, 4}, {3, 4}}, false}, // agrees, but is no course
		{one(1, up(1, 2)), [][]int{{1, 4}, {0, 4}}, false},
		{one(1, up(1, 2)), [][]int{{1, 4}, {2, 4}}, true},
		{one(1, up(0, 1)), [][]int{{1, 4}, {2, 4}}, true},
		{one(1, gone(0, 1)), [][]int{{1, 4}, {0, 4}}, false},
		{one(1, up(1, 4), gone(1, 0)), [][]int{{1, 4}, {0, 4}}, false},
		{one(1, up(1, 4), gone(1, 0)), [][]int{{1, 4}, {1, 4}}, true},
		{one(2, up(1, 2)), [][]int{{1, 4}, {2, 4}, {1, 4}}, true},
		{one(2, up(1, 2)), [][]int{{1, 4}, {1, 4}, {2, 4}}, false},
		{near(), [][]int{{1, 2, 3}, {0, 1, 4}}, true},
		{near(), [][]int{{1, 2, 3}, {2, 3, 4}}, true}, // side by side
		{near(), [][]int{{1, 2, 3}, {3, 2, 4}}, false},
		{near(), [][]int{{1, 2, 3}, {2, 2, 4}}, false}, // two in one cell
		{near(), [][]int{{1, 2, 3}, {0, 4, 3}}, false}, // past another one
		{near(), [][]int{{1, 2, 3}, {3, 4, 5}}, false},
		{left, [][]int{{0}, {0}}, true},
		{left, [][]int{{0}, {}}, false}, // a list without a cell is not one with cell 0
		{left, [][]int{nil, {0}}, false},
		{left, [][]int{{0, 0}, {0}}, false},
		{ends, [][]int{{0, 5}, {2, 3}}, true},
		{ends, [][]int{{0, 5}, {-1, 5}}, false},
		{ends, [][]int{{0, 5}, {0, 6}}, false},
	} {
		if is, e := branch.Fits(x.c, x.course); is != x.is || e != api.OK {
			t.Error(i, is, e)
		}
	}
}

// P3.2: how many courses fit, and the fewest moves of one; courses that are returned fit.
func TestCourses(t *testing.T) {
	calm := one(4)
	calm.Sands = nil
	for i, x := range []struct {
		c           branch.Channel
		many, moves int
	}{
		{one(0), 1, 0},
		{one(1), 3, 0}, // example 1
		{two(), 2, 1},  // example 2
		{one(1, up(1, 2)), 1, 1},
		{with(two(), up(1, 2)), 1, 1}, // example 3
		{one(2), 8, 0},
		{one(2, up(2, 3)), 1, 2}, // example 5
		{one(2, up(1, 2), up(2, 1)), 1, 2},
		{one(2, gone(1, 1)), 5, 1},
		{one(2, gone(1, 1), gone(2, 2), gone(2, 0)), 3, 2},
		{one(3, up(1, 0), up(2, 1), up(3, 2)), 1, 3},
		{one(1, up(1, 4), up(1, 4)), 3, 0},
		{near(), 10, 0},
		{with(near(), up(1, 0)), 6, 1},
		{with(with(near(), gone(1, 1)), gone(1, 3)), 1, 2},
		{with(with(near(), gone(1, 0)), gone(1, 1)), 1, 3},
		{calm, 1, 0},
		{branch.Channel{Cells: 2, Tides: 4, Fords: list(0), Sands: sands(sand(0, 1, 2))}, 16, 0},
		{branch.Channel{Cells: 10, Tides: 2, Fords: list(4), Sands: sands(sand(0, 9, 2))}, 25, 0},
		{branch.Channel{Cells: 10, Tides: 2, Fords: list(4), Sands: sands(sand(0, 9, 2), sand(4, 4, 1))}, 25, 0},
	} {
		many, e := branch.Count(x.c)
		if many != x.many || e != api.OK {
			t.Error(i, many, e)
		}
		checkCourses(t, x.c, x.moves)
	}
}

// checkCourses checks the courses that Course and Calm return.
func checkCourses(t *testing.T, c branch.Channel, fewest int) {
	t.Helper()
	a, e := branch.Course(c)
	b, n, f := branch.Calm(c)
	if e != api.OK || f != api.OK || n != fewest || moves(b) != fewest {
		t.Error(c, a, b, n, fewest, e, f)
		return
	}
	for _, course := range [][][]int{a, b} {
		if is, e := branch.Fits(c, course); !is || e != api.OK || !(slow{c}).isCourse(course) || !agreesWithAll(course, c.Sights) {
			t.Error(c, course, is, e)
		}
	}
}

// P3.2: where no course fits there are none, and none is returned.
func TestNoCourse(t *testing.T) {
	for i, c := range []branch.Channel{
		one(1, gone(1, 4)),
		one(1, up(1, 5)),
		one(1, gone(0, 1)),
		one(0, up(0, 0)),
		one(1, up(1, 1), gone(1, 1)),
		one(1, up(1, 1), up(1, 2)),
		one(1, up(1, 3)), // too far for one tide
		one(2, up(1, 0), up(2, 2)),
		one(3, up(2, 3), up(3, 2)),
		with(two(), gone(1, 4)), // example 4
		with(with(with(near(), gone(1, 4)), gone(1, 3)), gone(1, 2)),
	} {
		many, e := branch.Count(c)
		a, f := branch.Course(c)
		b, n, g := branch.Calm(c)
		if many != 0 || e != api.OK || !zero(a, b, n) || f != api.ErrClash || g != api.ErrClash {
			t.Error(i, many, a, b, n, e, f, g)
		}
	}
}

// anyCourse returns lists, most of which are nearly a course.
func anyCourse(r *rand.Rand, c branch.Channel) [][]int {
	courses := slow{c}.courses()
	var out [][]int
	for _, row := range courses[r.Intn(len(courses))] {
		out = append(out, slices.Clone(row))
	}
	for range r.Intn(3) {
		row := out[r.Intn(len(out))]
		row[r.Intn(len(row))] += 1 - 2*r.Intn(2)
	}
	if r.Intn(10) == 0 {
		out = out[1:]
	}
	return out
}

// P3.2: the courses of many channels.
func TestCoursesMany(t *testing.T) {
	var fit, none, spoiled int
	forMany(t, 400, func(r *rand.Rand, c branch.Channel) {
		o := slow{c}
		fitting := o.fitting()
		if many, e := branch.Count(c); many != len(fitting) || e != api.OK {
			t.Error(c, many, len(fitting), e)
		}
		for range 20 {
			course := anyCourse(r, c)
			want := o.isCourse(course) && agreesWithAll(course, c.Sights)
			if is, e := branch.Fits(c, course); is != want || e != api.OK {
				t.Error(c, course, is, want, e)
			}
			if want {
				fit++
			} else {
				spoiled++
			}
		}
		if len(fitting) == 0 {
			none++
			return
		}
		checkCourses(t, c, spanOf(fitting, moves).Lo)
	})
	if fit < 1000 || spoiled < 1000 || none < 50 {
		t.Error("too few channels of a kind to show anything", fit, spoiled, none)
	}
}
