package bed_test

import (
	"math/rand"
	"reflect"
	"slices"
	"testing"

	"laurel/api"
	"laurel/bed"
)

// two is the bed of the chapter's examples, with some surveys.
func two(surveys ...bed.Survey) bed.Bed {
	return bed.Bed{
		Room: 50, First: 20, Unsure: 2, Surveys: surveys,
		Months: months(month(10, 6, span(0, 5), span(0, 4)), month(10, 3, span(0, 0), span(0, 10))),
	}
}

// still is a bed of so many months in which nothing grows, falls or is lost.
func still(room, first, unsure, many int, surveys ...bed.Survey) bed.Bed {
	return bed.Bed{Room: room, First: first, Unsure: unsure, Months: make([]bed.Month, many), Surveys: surveys}
}

// poor is a bed of which more is raked than there can be, with some surveys.
func poor(surveys ...bed.Survey) bed.Bed {
	b := still(5, 2, 1, 2, surveys...)
	b.Months[1].Raked = 4
	return b
}

// widest is as large as beds can be.
func widest() bed.Bed {
	b := still(120, 60, 40, 10, found(0, 0, 120), found(3, 0, 119), found(3, 1, 120), found(10, 0, 120), found(5, 0, 120), found(7, 0, 99), found(9, 7, 120), found(10, 1, 110))
	for i := range b.Months {
		b.Months[i] = month(100, i, span(0, 60), span(0, 60))
	}
	return b
}

func list(n ...int) []int                  { return n }
func lists(l ...[]int) [][]int             { return l }
func span(lo, hi int) api.Span             { return api.Span{Lo: lo, Hi: hi} }
func chance(spat, storm int) bed.Chance    { return bed.Chance{Spat: spat, Storm: storm} }
func chances(c ...bed.Chance) []bed.Chance { return c }
func months(m ...bed.Month) []bed.Month    { return m }
func sameLists(a, b [][]int) bool          { return slices.EqualFunc(a, b, slices.Equal) }

func month(growth, raked int, spat, storm api.Span) bed.Month {
	return bed.Month{Growth: growth, Raked: raked, Spat: spat, Storm: storm}
}

func found(month, lo, hi int) bed.Survey {
	return bed.Survey{Month: month, Found: span(lo, hi)}
}

func surveys(s ...bed.Survey) []bed.Survey { return s }

// upto is a list of all numbers from one to another.
func upto(lo, hi int) []int {
	var out []int
	for n := lo; n <= hi; n++ {
		out = append(out, n)
	}
	return out
}

// with returns a bed with one survey more, whether it is allowed or not.
func with(b bed.Bed, s bed.Survey) bed.Bed {
	b = copied(b)
	b.Surveys = append(b.Surveys, s)
	return b
}

// copied returns a bed that shares no memory with another one.
func copied(b bed.Bed) bed.Bed {
	b.Months, b.Surveys = slices.Clone(b.Months), slices.Clone(b.Surveys)
	return b
}

// zero reports whether all results are zero; an empty list is as good as nil.
func zero(results ...any) bool {
	for _, x := range results {
		if v := reflect.ValueOf(x); !v.IsZero() && (v.Kind() != reflect.Slice || v.Len() > 0) {
			return false
		}
	}
	return true
}

// slow answers from the chapter's terms, word for word.
type slow struct{ bed.Bed }

// leaves returns what a month leaves of an amount if so much is raked; false if the raking cannot be.
func (o slow) leaves(month, amount int, c bed.Chance, raked int) (int, bool) {
	growth := 0
	for growth+1 <= amount && (growth+1)*100 <= amount*o.Months[month].Growth {
		growth++
	}
	amount += growth + c.Spat
	if amount > o.Room {
		amount = o.Room
	}
	amount -= c.Storm
	if amount < 0 {
		amount = 0
	}
	return amount - raked, amount >= raked
}

func (o slow) chances(month int) []bed.Chance {
	var out []bed.Chance
	for _, spat := range upto(o.Months[month].Spat.Lo, o.Months[month].Spat.Hi) {
		for _, storm := range upto(o.Months[month].Storm.Lo, o.Months[month].Storm.Hi) {
			out = append(out, chance(spat, storm))
		}
	}
	return out
}

func (o slow) starts() []int {
	return slices.DeleteFunc(upto(0, o.Room), func(n int) bool { return n < o.First-o.Unsure || n > o.First+o.Unsure })
}

// left returns the amounts that a month can leave of an amount, in increasing order.
func (o slow) left(month, amount int) []int {
	met := make([]bool, o.Room+1)
	for _, c := range o.chances(month) {
		if n, can := o.leaves(month, amount, c, o.Months[month].Raked); can {
			met[n] = true
		}
	}
	return slices.DeleteFunc(upto(0, o.Room), func(n int) bool { return !met[n] })
}

// courses returns all courses in lexicographic order, whether they agree or not.
func (o slow) courses() [][]int {
	var courses [][]int
	for _, amount := range o.starts() {
		courses = append(courses, list(amount))
	}
	for month := range o.Months {
		var left, longer [][]int
		for amount := range o.Room + 1 {
			left = append(left, o.left(month, amount))
		}
		for _, course := range courses {
			for _, amount := range left[course[month]] {
				longer = append(longer, append(slices.Clone(course), amount))
			}
		}
		courses = longer
	}
	return courses
}

func agrees(course []int, s bed.Survey) bool {
	return course[s.Month] >= s.Found.Lo && course[s.Month] <= s.Found.Hi
}

func agreesWithAll(course []int, surveys []bed.Survey) bool {
	return !slices.ContainsFunc(surveys, func(s bed.Survey) bool { return !agrees(course, s) })
}

// agreeing returns all courses that agree.
func (o slow) agreeing() [][]int {
	return slices.DeleteFunc(o.courses(), func(course []int) bool { return !agreesWithAll(course, o.Surveys) })
}

// can returns for each month and the end the amounts that courses have there.
func (o slow) can(courses [][]int) [][]int {
	var out [][]int
	for month := range len(o.Months) + 1 {
		out = append(out, slices.DeleteFunc(upto(0, o.Room), func(amount int) bool {
			return !slices.ContainsFunc(courses, func(course []int) bool { return course[month] == amount })
		}))
	}
	return out
}

// clashes returns all lists of surveys with which no course agrees: the shorter ones first, then in lexicographic order.
func (o slow) clashes() [][]int {
	courses := o.courses()
	var out [][]int
	for set := range 1 << len(o.Surveys) {
		var l []int
		for i := range o.Surveys {
			if set>>i%2 == 1 {
				l = append(l, i)
			}
		}
		if !slices.ContainsFunc(courses, func(course []int) bool {
			return !slices.ContainsFunc(l, func(i int) bool { return !agrees(course, o.Surveys[i]) })
		}) {
			out = append(out, l)
		}
	}
	slices.SortFunc(out, func(a, b []int) int {
		if len(a) != len(b) {
			return len(a) - len(b)
		}
		return slices.Compare(a, b)
	})
	return out
}

// state is an amount, and the sum of what was raked.
type state struct{ amount, sum int }

// ends returns all states at the end if so much is raked of each amount of each month; false if some raking cannot be.
func (o slow) ends(raked func(month, amount int) int) (map[state]bool, bool) {
	at := map[state]bool{}
	for _, amount := range o.starts() {
		at[state{amount, 0}] = true
	}
	for month := range o.Months {
		next := map[state]bool{}
		for x := range at {
			n := raked(month, x.amount)
			for _, c := range o.chances(month) {
				left, can := o.leaves(month, x.amount, c, n)
				if !can {
					return nil, false
				}
				next[state{left, x.sum + n}] = true
			}
		}
		at = next
	}
	return at, true
}

// leastEnd returns the least amount at the end that a plan can come to; false if some raking cannot be.
func (o slow) leastEnd(plan []int) (int, bool) {
	ends, can := o.ends(func(month, _ int) int { return plan[month] })
	if !can {
		return 0, false
	}
	least := o.Room
	for x := range ends {
		least = min(least, x.amount)
	}
	return least, true
}

// plans returns all plans in lexicographic order, each with the least amount at the end; those that cannot be are left out.
func (o slow) plans() (plans [][]int, least []int) {
	plans = lists(nil)
	for range o.Months {
		var longer [][]int
		for _, plan := range plans {
			for raked := range o.Room + 1 {
				longer = append(longer, append(slices.Clone(plan), raked))
			}
		}
		plans = longer
	}
	plans = slices.DeleteFunc(plans, func(plan []int) bool {
		n, can := o.leastEnd(plan)
		if can {
			least = append(least, n)
		}
		return !can
	})
	return plans, least
}

// leavesAtLeast reports whether a month leaves so much of an amount with all chances, if so much is raked.
func (o slow) leavesAtLeast(month, amount, raked, least int) bool {
	return !slices.ContainsFunc(o.chances(month), func(c bed.Chance) bool {
		left, can := o.leaves(month, amount, c, raked)
		return !can || left < least
	})
}

func (o slow) isKept(floor []int, share int) bool {
	for month := range o.Months {
		for _, amount := range upto(floor[month], o.Room) {
			if !o.leavesAtLeast(month, amount, 0, floor[month+1]) {
				return false
			}
		}
	}
	return floor[len(o.Months)] >= share
}

// floors returns all floors that are kept for a share, in lexicographic order.
func (o slow) floors(share int) [][]int {
	floors := lists(nil)
	for range len(o.Months) + 1 {
		var longer [][]int
		for _, floor := range floors {
			for amount := range o.Room + 1 {
				longer = append(longer, append(slices.Clone(floor), amount))
			}
		}
		floors = longer
	}
	return slices.DeleteFunc(floors, func(floor []int) bool { return !o.isKept(floor, share) })
}

// most returns what a rule rakes of an amount.
func (o slow) most(floor []int, month, amount int) int {
	for raked := o.Room; raked > 0; raked-- {
		if o.leavesAtLeast(month, amount, raked, floor[month+1]) {
			return raked
		}
	}
	return 0
}

// anySpan returns a short span of numbers up to one.
func anySpan(r *rand.Rand, most int) api.Span {
	lo := r.Intn(most + 1)
	return span(lo, min(lo+r.Intn(4), most))
}

// anyBed returns a small bed.
func anyBed(r *rand.Rand) bed.Bed {
	b := bed.Bed{Room: 1 + r.Intn(9), Unsure: r.Intn(3)}
	b.First = r.Intn(b.Room + 1)
	for range 1 + r.Intn(3) {
		growth := list(0, 0, 10, 25, 34, 50, 99, 100)[r.Intn(8)]
		b.Months = append(b.Months, month(growth, r.Intn(min(3, b.Room+1)), anySpan(r, 4), anySpan(r, 3)))
	}
	if len(b.Months) == 3 {
		b.Room = min(b.Room, 6)
		b.First = min(b.First, b.Room)
	}
	b.Surveys = anySurveys(r, b)
	return b
}

// anySurveys returns surveys most of which a course agrees with.
func anySurveys(r *rand.Rand, b bed.Bed) []bed.Survey {
	courses := slow{b}.courses()
	wrong := r.Intn(4)
	var out []bed.Survey
	for range r.Intn(6) {
		month := r.Intn(len(b.Months) + 1)
		lo := r.Intn(b.Room + 1)
		if len(courses) > 0 && r.Intn(4) >= wrong {
			lo = courses[r.Intn(len(courses))][month]
		}
		out = append(out, found(month, max(0, lo-r.Intn(3)), min(b.Room, lo+r.Intn(3))))
	}
	return out
}

// forMany asks something of many beds.
func forMany(t *testing.T, times int, ask func(r *rand.Rand, b bed.Bed)) {
	t.Helper()
	r := rand.New(rand.NewSource(4))
	for range times {
		ask(r, anyBed(r))
		if t.Failed() {
			return
		}
	}
}
