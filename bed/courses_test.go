package bed_test

import (
	"math"
	"math/rand"
	"slices"
	"testing"

	"laurel/api"
	"laurel/bed"
)

// P4.2: the amounts that can be, also by what came later, and the least and the greatest of them.
func TestCan(t *testing.T) {
	gaps := still(20, 1, 1, 1)
	gaps.Months[0].Growth = 100
	for i, x := range []struct {
		b    bed.Bed
		want [][]int
	}{
		{two(), lists(upto(18, 22), upto(9, 23), upto(0, 22))},                   // example 2
		{two(found(1, 21, 30)), lists(upto(20, 22), upto(21, 23), upto(10, 22))}, // example 3
		{two(found(2, 0, 5)), lists(upto(18, 22), upto(9, 17), upto(0, 5))},      // a survey of the end tells of the months before
		{two(found(2, 0, 0)), lists(upto(18, 20), upto(9, 12), list(0))},
		{two(found(2, 20, 50)), lists(upto(20, 22), upto(21, 23), upto(20, 22))},
		{two(found(0, 0, 18), found(0, 18, 50)), lists(list(18), upto(9, 18), upto(0, 16))},    // two of one month
		{two(found(2, 0, 5), found(1, 12, 16)), lists(upto(18, 22), upto(12, 16), upto(0, 5))}, // surveys of two months
		{two(found(2, 0, 50), found(0, 0, 50)), lists(upto(18, 22), upto(9, 23), upto(0, 22))}, // surveys that tell nothing
		{gaps, lists(upto(0, 2), list(0, 2, 4))},                                               // not all between the bounds
		{still(120, 120, 40, 1), lists(upto(80, 120), upto(80, 120))},                          // as far as they are amounts
		{still(120, 0, 40, 1), lists(upto(0, 40), upto(0, 40))},
		{still(1, 1, 40, 2), lists(list(0, 1), list(0, 1), list(0, 1))},
		{still(30, 7, 0, 1), lists(list(7), list(7))},
		{still(30, 7, 2, 2, found(1, 9, 30)), lists(list(9), list(9), list(9))},
		{still(30, 7, 2, 1, found(1, 3, 5), found(0, 5, 9)), lists(list(5), list(5))},
		{poorUnsure(), lists(list(4, 5), list(4, 5), list(0, 1))},                                           // what is raked must be there
		{bed.Bed{Room: 3, Months: months(month(0, 0, span(2, 3), span(1, 1)))}, lists(list(0), list(1, 2))}, // spat and storm that are never 0
	} {
		got, e := bed.Can(x.b)
		if !sameLists(got, x.want) || e != api.OK {
			t.Error(i, got, e)
		}
		bounds, e := bed.Bounds(x.b)
		if len(bounds) != len(x.want) || e != api.OK {
			t.Error(i, bounds, e)
			continue
		}
		for month, s := range bounds {
			if s != span(slices.Min(x.want[month]), slices.Max(x.want[month])) {
				t.Error(i, month, bounds)
			}
		}
	}
}

// poorUnsure is a bed in which only the greatest amounts let the raking be.
func poorUnsure() bed.Bed {
	b := poor()
	b.Unsure = 3
	return b
}

// noCourses are beds with which no course agrees.
func noCourses() []bed.Bed {
	return []bed.Bed{
		poor(),
		poor(found(0, 0, 0)),
		two(found(1, 21, 30), found(2, 0, 5)), // example 3
		two(found(0, 0, 17)),
		two(found(0, 23, 50)),
		two(found(1, 24, 50)),
		two(found(1, 0, 8)),
		two(found(2, 23, 23)),
		two(found(0, 18, 19), found(0, 20, 22)),
		still(5, 2, 1, 10, found(10, 4, 5)),
		still(5, 2, 1, 10, found(10, 3, 5), found(0, 0, 2)),
	}
}

// P4.2: where no course agrees nothing can be.
func TestNoCourse(t *testing.T) {
	for i, b := range noCourses() {
		can, e := bed.Can(b)
		bounds, f := bed.Bounds(b)
		if !zero(can, bounds) || e != api.ErrClash || f != api.ErrClash {
			t.Error(i, can, bounds, e, f)
		}
		for month := range len(b.Months) + 1 {
			for amount := range b.Room + 1 {
				if course, e := bed.Course(b, month, amount); !zero(course) || e != api.ErrNone {
					t.Error(i, month, amount, course, e)
				}
			}
		}
	}
}

// P4.2: the first course that has an amount in a month, and the errors of Course in their order.
func TestCourse(t *testing.T) {
	for i, x := range []struct {
		b             bed.Bed
		month, amount int
		want          []int
		e             api.Errno
	}{
		{two(), 0, 18, list(18, 9, 0), api.OK},
		{two(), 0, 20, list(20, 12, 0), api.OK},
		{two(), 1, 16, list(18, 16, 4), api.OK},
		{two(), 1, 23, list(22, 23, 12), api.OK},
		{two(), 2, 0, list(18, 9, 0), api.OK},
		{two(), 2, 8, list(18, 10, 8), api.OK},
		{two(), 2, 20, list(20, 21, 20), api.OK},
		{two(), 2, 22, list(22, 23, 22), api.OK},
		{two(found(1, 21, 30)), 0, 20, list(20, 21, 10), api.OK},
		{two(found(1, 21, 30)), 2, 10, list(20, 21, 10), api.OK},
		{two(found(1, 21, 30)), 1, 23, list(22, 23, 12), api.OK},
		{two(found(2, 8, 9)), 0, 19, list(19, 10, 8), api.OK}, // not by 9, of which no more than 6 is left
		{two(found(2, 8, 9)), 1, 18, list(18, 18, 8), api.OK},
		{poorUnsure(), 2, 1, list(5, 5, 1), api.OK},
		{two(), 0, 17, nil, api.ErrNone},
		{two(), 0, 23, nil, api.ErrNone},
		{two(), 1, 8, nil, api.ErrNone},
		{two(), 1, 24, nil, api.ErrNone},
		{two(), 2, 23, nil, api.ErrNone},
		{two(found(1, 21, 30)), 0, 19, nil, api.ErrNone},
		{two(found(1, 21, 30)), 1, 20, nil, api.ErrNone},
		{two(found(1, 21, 30)), 2, 9, nil, api.ErrNone},
		{poorUnsure(), 0, 3, nil, api.ErrNone},
		{two(), 3, 51, nil, api.ErrMissing},
		{two(), 3, 0, nil, api.ErrMissing},
		{two(), -1, -1, nil, api.ErrMissing},
		{two(), math.MaxInt, 0, nil, api.ErrMissing},
		{two(), math.MinInt, 0, nil, api.ErrMissing},
		{two(), 2, 51, nil, api.ErrLimit},
		{two(), 0, -1, nil, api.ErrLimit},
		{two(), 1, math.MaxInt, nil, api.ErrLimit},
		{two(), 1, math.MinInt, nil, api.ErrLimit},
		{poor(), 3, 0, nil, api.ErrMissing},
		{poor(), 2, 6, nil, api.ErrLimit},
		{still(1, 1, 0, 10), 10, 1, slices.Repeat(list(1), 11), api.OK},
		{still(1, 1, 0, 10), 11, 1, nil, api.ErrMissing},
	} {
		if got, e := bed.Course(x.b, x.month, x.amount); !slices.Equal(got, x.want) || e != x.e {
			t.Error(i, got, e)
		}
	}
}

// P4.3: which lists are courses, which of them agree, and the first chances of those that are courses.
func TestChances(t *testing.T) {
	for i, x := range []struct {
		b      bed.Bed
		course []int
		want   []bed.Chance // none if it is no course
		agrees bool
	}{
		{two(), list(20, 20, 19), chances(chance(4, 0), chance(0, 0)), true},
		{two(), list(20, 16, 4), chances(chance(0, 0), chance(0, 10)), true},
		{two(), list(20, 12, 3), chances(chance(0, 4), chance(0, 7)), true},
		{two(), list(18, 9, 0), chances(chance(0, 4), chance(0, 6)), true},
		{two(), list(22, 23, 22), chances(chance(5, 0), chance(0, 0)), true},
		{two(), list(18, 18, 16), chances(chance(5, 0), chance(0, 0)), true},
		{two(), list(20, 11, 3), nil, false},
		{two(), list(20, 22, 11), nil, false},
		{two(), list(20, 12, 11), nil, false},
		{two(), list(18, 9, 50), nil, false},
		{two(), list(17, 12, 3), nil, false}, // not of what is there at the beginning
		{two(), list(17, 8, 5), nil, false},
		{two(), list(23, 15, 3), nil, false},
		{two(found(1, 21, 30)), list(20, 12, 3), chances(chance(0, 4), chance(0, 7)), false},
		{two(found(1, 21, 30)), list(20, 21, 10), chances(chance(5, 0), chance(0, 10)), true},
		{two(found(0, 19, 50)), list(18, 9, 0), chances(chance(0, 4), chance(0, 6)), false},
		{two(found(2, 1, 50)), list(18, 9, 0), chances(chance(0, 4), chance(0, 6)), false},
		{two(found(1, 9, 9), found(1, 10, 50)), list(18, 9, 0), chances(chance(0, 4), chance(0, 6)), false},
		{two(found(0, 18, 18), found(1, 9, 9), found(2, 0, 0)), list(18, 9, 0), chances(chance(0, 4), chance(0, 6)), true},
		{poorUnsure(), list(4, 4, 0), chances(chance(0, 0), chance(0, 0)), true},
		{poorUnsure(), list(3, 3, 0), nil, false},                                                                                  // the raking cannot be
		{bed.Bed{Room: 9, First: 9, Months: months(month(0, 0, span(3, 7), span(2, 4)))}, list(9, 6), chances(chance(3, 3)), true}, // no more than there is room for
		{bed.Bed{Room: 9, First: 3, Months: months(month(0, 0, span(0, 7), span(2, 9)))}, list(3, 0), chances(chance(0, 3)), true},
		{bed.Bed{Room: 9, First: 3, Months: months(month(0, 0, span(2, 7), span(8, 9)))}, list(3, 0), chances(chance(2, 8)), true}, // no less than 0
		{bed.Bed{Room: 9, First: 3, Months: months(month(0, 0, span(2, 7), span(3, 9)))}, list(3, 4), chances(chance(4, 3)), true},
	} {
		is, e := bed.Agrees(x.b, x.course)
		if is != x.agrees || e != api.OK {
			t.Error(i, is, e)
		}
		want := api.OK
		if x.want == nil {
			want = api.ErrWrong
		}
		if got, e := bed.Chances(x.b, x.course); !slices.Equal(got, x.want) || e != want {
			t.Error(i, got, e)
		}
	}
}

// P4.3: the errors of lists that are too short or too long, or have no amounts, in their order.
func TestChancesErrors(t *testing.T) {
	for i, x := range []struct {
		course []int
		e      api.Errno
	}{
		{nil, api.ErrMany},
		{list(), api.ErrMany},
		{list(20, 12), api.ErrMany},
		{list(20, 12, 3, 3), api.ErrMany},
		{list(20, 51), api.ErrMany},
		{list(-1, 12, 3, 51), api.ErrMany},
		{list(20, 51, 3), api.ErrLimit},
		{list(-1, 12, 3), api.ErrLimit},
		{list(17, 12, 51), api.ErrLimit},
		{list(20, math.MinInt, 3), api.ErrLimit},
		{list(20, 12, math.MaxInt), api.ErrLimit},
	} {
		for _, b := range append(noCourses()[:9], two()) {
			b.Room = max(b.Room, 50)
			is, e := bed.Agrees(b, x.course)
			got, f := bed.Chances(b, x.course)
			if is || !zero(got) || e != x.e || f != x.e {
				t.Error(i, b, is, got, e, f)
			}
		}
	}
}

// anyCourse returns a list that is nearly a course.
func anyCourse(r *rand.Rand, b bed.Bed, courses [][]int) []int {
	course := slices.Repeat(list(r.Intn(b.Room+1)), len(b.Months)+1)
	if len(courses) > 0 {
		course = slices.Clone(courses[r.Intn(len(courses))])
	}
	for range r.Intn(3) {
		course[r.Intn(len(course))] = r.Intn(b.Room + 1)
	}
	return course
}

// firstChances returns for each month the first chance with which it leaves the next amount of a course; nil if there is none.
func (o slow) firstChances(course []int) []bed.Chance {
	var out []bed.Chance
	for month := range o.Months {
		all := o.chances(month)
		i := slices.IndexFunc(all, func(c bed.Chance) bool {
			n, can := o.leaves(month, course[month], c, o.Months[month].Raked)
			return can && n == course[month+1]
		})
		if i < 0 {
			return nil
		}
		out = append(out, all[i])
	}
	return out
}

// P4.2, P4.3: what can be in many beds, and their courses.
func TestCoursesMany(t *testing.T) {
	var none, agreed, wrong int
	forMany(t, 1500, func(r *rand.Rand, b bed.Bed) {
		o := slow{b}
		courses := o.courses()
		agreeing := o.agreeing()
		checkCan(t, o, agreeing)
		if len(agreeing) == 0 {
			none++
		}
		for range 10 {
			course := anyCourse(r, b, courses)
			isCourse := slices.ContainsFunc(courses, func(x []int) bool { return slices.Equal(x, course) })
			is, e := bed.Agrees(b, course)
			got, f := bed.Chances(b, course)
			if want := isCourse && agreesWithAll(course, b.Surveys); is != want || e != api.OK {
				t.Error(b, course, is, e)
			}
			if isCourse && (f != api.OK || !slices.Equal(got, o.firstChances(course))) || !isCourse && (f != api.ErrWrong || !zero(got)) {
				t.Error(b, course, got, f)
			}
			if is {
				agreed++
			}
			if !isCourse {
				wrong++
			}
		}
	})
	if none < 100 || agreed < 1000 || wrong < 1000 {
		t.Error("too few beds of a kind to show anything", none, agreed, wrong)
	}
}

// checkCan checks what can be, and the first courses, by all courses that agree.
func checkCan(t *testing.T, o slow, agreeing [][]int) {
	t.Helper()
	want := o.can(agreeing)
	got, e := bed.Can(o.Bed)
	bounds, f := bed.Bounds(o.Bed)
	if len(agreeing) == 0 {
		if !zero(got, bounds) || e != api.ErrClash || f != api.ErrClash {
			t.Error(o.Bed, got, bounds, e, f)
		}
	} else if !sameLists(got, want) || len(bounds) != len(want) || e != api.OK || f != api.OK {
		t.Error(o.Bed, got, want, bounds, e, f)
	}
	for month, s := range bounds {
		if s != span(slices.Min(want[month]), slices.Max(want[month])) {
			t.Error(o.Bed, bounds, want)
		}
	}
	for month := range want {
		for amount := range o.Room + 1 {
			course, e := bed.Course(o.Bed, month, amount)
			i := slices.IndexFunc(agreeing, func(x []int) bool { return x[month] == amount })
			if i < 0 && (!zero(course) || e != api.ErrNone) || i >= 0 && (!slices.Equal(course, agreeing[i]) || e != api.OK) {
				t.Error(o.Bed, month, amount, course, e)
			}
		}
	}
}
