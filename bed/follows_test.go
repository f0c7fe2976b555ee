package bed_test

import (
	"math"
	"math/rand"
	"reflect"
	"slices"
	"testing"

	"laurel/api"
	"laurel/bed"
)

// P4.7, P0.5: each amount that is told can be, as a course shows, and lies within the bounds.
func TestAmountsAreThoseOfCourses(t *testing.T) {
	var shown int
	forMany(t, 1000, func(_ *rand.Rand, b bed.Bed) {
		can, e := bed.Can(b)
		if e != api.OK {
			return
		}
		bounds, e := bed.Bounds(b)
		if e != api.OK {
			t.Error(b, e)
		}
		for month, amounts := range can {
			for _, amount := range amounts {
				course, e := bed.Course(b, month, amount)
				is, f := bed.Agrees(b, course)
				if e != api.OK || f != api.OK || !is || course[month] != amount || amount < bounds[month].Lo || amount > bounds[month].Hi {
					t.Fatal(b, month, amount, course, is, bounds, e, f)
				}
				chances, e := bed.Chances(b, course)
				if e != api.OK {
					t.Fatal(b, course, e)
				}
				for i, c := range chances {
					if left, e := bed.Leaves(b, i, course[i], c); left != course[i+1] || e != api.OK {
						t.Error(b, course, i, c, left, e)
					}
				}
				shown++
			}
		}
	})
	if shown < 1000 {
		t.Error("too few amounts that can be to show anything", shown)
	}
}

// within reports whether a list has no numbers but those of another one.
func within(l, all []int) bool {
	return !slices.ContainsFunc(l, func(n int) bool { return !slices.Contains(all, n) })
}

// P4.7: a survey more never makes more amounts possible, and a clash stays one.
func TestSurveyMore(t *testing.T) {
	var less int
	forMany(t, 2000, func(r *rand.Rand, b bed.Bed) {
		lo := r.Intn(b.Room + 1)
		more := with(b, found(r.Intn(len(b.Months)+1), lo, lo+r.Intn(b.Room+1-lo)))
		all, e := bed.Can(b)
		some, f := bed.Can(more)
		if e != api.OK {
			if f != e {
				t.Error(b, more, f)
			}
			return
		}
		if f != api.OK {
			less++
			return
		}
		for month, amounts := range some {
			if !within(amounts, all[month]) {
				t.Error(b, more, month, amounts, all[month])
			}
			if len(amounts) < len(all[month]) {
				less++
			}
		}
	})
	if less < 500 {
		t.Error("too few surveys that tell something to show anything", less)
	}
}

// P4.7: an amount more, or more spat, or less storm, never makes a month leave less.
func TestMoreLeavesMore(t *testing.T) {
	var more int
	forMany(t, 300, func(_ *rand.Rand, b bed.Bed) {
		o := slow{b}
		for month := range b.Months {
			for amount := range b.Room + 1 {
				for _, c := range o.chances(month) {
					left, e := bed.Leaves(b, month, amount, c)
					if e != api.OK {
						continue
					}
					for _, x := range []struct {
						amount int
						c      bed.Chance
					}{
						{amount + 1, c}, {amount, chance(c.Spat+1, c.Storm)}, {amount, chance(c.Spat, c.Storm-1)},
					} {
						then, e := bed.Leaves(b, month, x.amount, x.c)
						if e == api.ErrSpent || e == api.OK && then < left {
							t.Error(b, month, amount, c, left, x, then, e)
						}
						if e == api.OK {
							more++
						}
					}
				}
			}
		}
	})
	if more < 1000 {
		t.Error("too few months that leave something to show anything", more)
	}
}

// P4.7: the plan that rakes nothing keeps a share just if the least amount at the beginning is not less than the floor, and no other plan does where it does not.
func TestFloorTellsOfPlans(t *testing.T) {
	var kept, not int
	forMany(t, 1000, func(r *rand.Rand, b bed.Bed) {
		nothing := make([]int, len(b.Months))
		for share := range b.Room + 1 {
			floor, e := bed.Floor(b, share)
			enough := e == api.OK && slow{b}.starts()[0] >= floor[0]
			if is, e := bed.Keeps(b, nothing, share); is != enough || e != api.OK {
				t.Error(b, share, floor, is, e)
			}
			_, f := bed.Most(b, share)
			_, _, g := bed.Rule(b, share)
			if enough != (f == api.OK) || enough != (g == api.OK) {
				t.Error(b, share, floor, f, g)
			}
			plan := slices.Clone(nothing)
			for month := range plan {
				plan[month] = r.Intn(3) % (b.Room + 1)
			}
			if is, e := bed.Keeps(b, plan, share); is && !enough || e != api.OK {
				t.Error(b, share, floor, plan, is, e)
			}
			if enough {
				kept++
			} else {
				not++
			}
		}
	})
	if kept < 1000 || not < 1000 {
		t.Error("too few shares of a kind to show anything", kept, not)
	}
}

// P4.7: a plan that rakes less in some month still keeps its share; the best plan cannot rake more in any month.
func TestLessStillKeeps(t *testing.T) {
	var less int
	forMany(t, 600, func(_ *rand.Rand, b bed.Bed) {
		for share := range b.Room + 1 {
			plan, e := bed.Most(b, share)
			if e != api.OK {
				continue
			}
			if is, e := bed.Keeps(b, plan, share); !is || e != api.OK {
				t.Error(b, share, plan, is, e)
			}
			for month, raked := range plan {
				other := slices.Clone(plan)
				for other[month] = range raked {
					less++
					if is, e := bed.Keeps(b, other, share); !is || e != api.OK {
						t.Error(b, share, other, is, e)
					}
				}
				if other[month] = raked + 1; raked < b.Room {
					if is, e := bed.Keeps(b, other, share); is || e != api.OK {
						t.Error(b, share, other, is, e)
					}
				}
			}
		}
	})
	if less < 1000 {
		t.Error("too few plans that rake less to show anything", less)
	}
}

// P4.7: who rakes by the rule, and has at least the floor at the beginning, never has less than the floor of a month.
func TestRuleKeepsFloor(t *testing.T) {
	var raked int
	forMany(t, 600, func(r *rand.Rand, b bed.Bed) {
		o := slow{b}
		for share := range b.Room + 1 {
			rule, sum, e := bed.Rule(b, share)
			if e != api.OK {
				continue
			}
			floor, e := bed.Floor(b, share)
			if is, f := bed.Kept(b, floor, share); !is || e != api.OK || f != api.OK {
				t.Error(b, share, floor, is, e, f)
			}
			starts := o.starts()
			amount, total := starts[r.Intn(len(starts))], 0
			for month := range b.Months {
				n := rule[month][amount]
				all := o.chances(month)
				left, can := o.leaves(month, amount, all[r.Intn(len(all))], n)
				if !can || amount < floor[month] || left < floor[month+1] {
					t.Fatal(b, share, rule, floor, month, amount, left, can)
				}
				amount, total = left, total+n
			}
			if amount < share || total < sum {
				t.Error(b, share, rule, sum, amount, total)
			}
			if sum > 0 {
				raked++
			}
		}
	})
	if raked < 300 {
		t.Error("too few rules that rake something to show anything", raked)
	}
}

// P0.1: no function panics, whatever its arguments are, and all end.
func TestAnyArguments(t *testing.T) {
	some := list(0, 1, -1, 2, 3, 4, 5, 6, 8, 9, 10, 11, 40, 41, 60, 61, 99, 100, 101, 120, 121, math.MaxInt, math.MinInt, math.MaxInt32)
	r := rand.New(rand.NewSource(9))
	pick := func() int { return some[r.Intn(len(some))] }
	for range 3000 {
		b := bed.Bed{Room: pick(), First: pick(), Unsure: pick()}
		if r.Intn(2) == 0 {
			b = anyBed(r)
		}
		for range r.Intn(2) {
			b.Months = append(b.Months, month(pick(), pick(), span(pick(), pick()), span(pick(), pick())))
		}
		for range r.Intn(2) {
			b.Surveys = append(b.Surveys, found(pick(), pick(), pick()))
		}
		want := bed.Check(b)
		for _, x := range calls(pick()) {
			if isZero, e := x.ask(b); e != api.OK && !isZero || want != api.OK && e != want {
				t.Error(x.name, b, isZero, e)
			}
		}
	}
}

// P0.1: all functions end, and have answers, for beds that are as large as can be.
func TestWidest(t *testing.T) {
	b := widest()
	course, e := bed.Course(b, 10, 110)
	chances, f := bed.Chances(b, course)
	is, g := bed.Agrees(b, course)
	if len(course) != 11 || len(chances) != 10 || !is || e != api.OK || f != api.OK || g != api.OK {
		t.Error(course, chances, is, e, f, g)
	}
	if got, e := bed.Clash(b); !zero(got) || e != api.ErrNone {
		t.Error(got, e)
	}
	bounds, e := bed.Bounds(b)
	if len(bounds) != 11 || bounds[0] != span(20, 100) || bounds[10] != span(1, 110) || e != api.OK {
		t.Error(bounds, e)
	}
	month, many, e := bed.Look(b)
	if month != 1 || many != 121 || e != api.OK {
		t.Error(month, many, e)
	}
	if got, e := bed.Before(b, 9, 60); !slices.Equal(got, upto(5, 120)) || e != api.OK {
		t.Error(got, e)
	}
	for i := range b.Months {
		b.Months[i].Storm.Hi = 10
	}
	most, e := bed.Most(b, 120)
	even, f := bed.Even(b, 100)
	if !zero(most) || e != api.ErrNone || even != 9 || f != api.OK {
		t.Error(most, even, e, f)
	}
	most, e = bed.Most(b, 0)
	rule, least, f := bed.Rule(b, 110)
	if !slices.Equal(most, list(0, 0, 30, 50, 50, 50, 50, 50, 50, 110)) || len(rule) != 10 || least != 24 || e != api.OK || f != api.OK {
		t.Error(most, len(rule), least, e, f)
	}
}

// everything returns all results for a bed, so that they can be held against others.
func everything(b bed.Bed, course, plan, floor []int) []any {
	out := []any{bed.Check(b)}
	keep := func(results ...any) {
		for _, x := range results {
			if v := reflect.ValueOf(x); v.Kind() == reflect.Slice && v.Len() == 0 {
				x = nil
			}
			out = append(out, x)
		}
	}
	for _, n := range list(0, 1, 5, 20) {
		left, e := bed.Leaves(b, 0, n, chance(0, 0))
		keep(left, e)
		before, e := bed.Before(b, 1, n)
		keep(before, e)
		first, e := bed.Course(b, 2, n)
		keep(first, e)
		is, e := bed.Keeps(b, plan, n)
		keep(is, e)
		most, e := bed.Most(b, n)
		keep(most, e)
		even, e := bed.Even(b, n)
		keep(even, e)
		least, e := bed.Floor(b, n)
		keep(least, e)
		is, e = bed.Kept(b, floor, n)
		keep(is, e)
		rule, sum, e := bed.Rule(b, n)
		keep(rule, sum, e)
	}
	can, e := bed.Can(b)
	keep(can, e)
	bounds, e := bed.Bounds(b)
	keep(bounds, e)
	chances, e := bed.Chances(b, course)
	keep(chances, e)
	is, e := bed.Agrees(b, course)
	keep(is, e)
	clash, e := bed.Clash(b)
	keep(clash, e)
	look, many, e := bed.Look(b)
	keep(look, many, e)
	worst, end, e := bed.Worst(b, plan)
	keep(worst, end, e)
	return out
}

// R4, R5: arguments come back unchanged, and the same question has the same answer again.
func TestArgumentsUnchanged(t *testing.T) {
	for _, b := range []bed.Bed{two(), two(found(2, 0, 5), found(0, 0, 50), found(1, 21, 30)), surveyed(), poor(), poorUnsure(), rough()} {
		same := copied(b)
		course, plan, floor := list(5, 5, 1), list(0, 1), list(4, 4, 4)
		if b.Room == 50 {
			course, floor = list(20, 21, 10), list(17, 14, 5)
		}
		args := lists(slices.Clone(course), slices.Clone(plan), slices.Clone(floor))
		before := everything(b, course, plan, floor)
		if after := everything(b, course, plan, floor); !reflect.DeepEqual(before, after) {
			t.Error(before, after)
		}
		if !reflect.DeepEqual(b, same) || !sameLists(lists(course, plan, floor), args) {
			t.Error(b, course, plan, floor)
		}
	}
}

// R3: a nil list of surveys has the same answers as an empty one.
func TestNilSurveys(t *testing.T) {
	empty := two()
	empty.Surveys = surveys()
	course, plan, floor := list(20, 21, 10), list(0, 1), list(17, 14, 5)
	if a, b := everything(two(), course, plan, floor), everything(empty, course, plan, floor); !reflect.DeepEqual(a, b) {
		t.Error(a, b)
	}
}

// R4: a list that has room behind it is not written to.
func TestRoomUnchanged(t *testing.T) {
	b := two()
	far := month(7, 7, span(7, 7), span(7, 7))
	all, seen := append(b.Months, far), surveys(found(1, 21, 30), found(2, 10, 12), found(7, 7, 7))
	b.Months, b.Surveys = all[:2], seen[:2]
	course, plan, floor := list(20, 21, 10, 77), list(0, 1, 77), list(17, 14, 5, 77)
	everything(b, course[:3], plan[:2], floor[:3])
	if all[2] != far || seen[2] != found(7, 7, 7) || course[3] != 77 || plan[2] != 77 || floor[3] != 77 {
		t.Error(all, seen, course, plan, floor)
	}
}

// alone reports whether no list is written to if others are, as far as they have room.
func alone(results ...[]int) bool {
	var before [][]int
	for _, l := range results {
		before = append(before, slices.Clone(l))
	}
	for i, l := range results {
		l = l[:cap(l)]
		for n := range l {
			l[n] = -77
		}
		for j := i + 1; j < len(results); j++ {
			if !slices.Equal(results[j], before[j]) {
				return false
			}
		}
	}
	return true
}

// R4: results share no memory with arguments, nor with each other.
func TestResultsAlone(t *testing.T) {
	b := surveyed()
	can, e := bed.Can(b)
	again, f := bed.Can(b)
	rule, _, g := bed.Rule(b, 5)
	if !alone(slices.Concat(can, again, rule)...) || e != api.OK || f != api.OK || g != api.OK {
		t.Error(can, again, rule, e, f, g)
	}
	course := list(20, 21, 10)
	chances, e := bed.Chances(b, course)
	chances[0] = chance(9, 9)
	plan := list(0, 1)
	worst, _, f := bed.Worst(b, plan)
	worst[0] = chance(9, 9)
	most, g := bed.Most(b, 5)
	floor, h := bed.Floor(b, 5)
	first, i := bed.Course(b, 1, 21)
	if !alone(most, floor, first, course, plan) || e != api.OK || f != api.OK || g != api.OK || h != api.OK || i != api.OK {
		t.Error(most, floor, first, course, plan, e, f, g, h, i)
	}
	if !reflect.DeepEqual(b, surveyed()) {
		t.Error(b)
	}
}
