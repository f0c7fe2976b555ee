package bed_test

import (
	"math"
	"math/rand"
	"slices"
	"testing"

	"laurel/api"
	"laurel/bed"
)

// surveyed is the bed of the examples with two surveys, which faults spoil.
func surveyed() bed.Bed { return two(found(1, 21, 30), found(2, 10, 12)) }

// fault spoils that bed, so that it has an error.
type fault struct {
	name  string
	e     api.Errno
	spoil func(b *bed.Bed)
}

func faults() []fault {
	return slices.Concat(roomFaults(), manyFaults(), limitFaults(), missingFaults())
}

func roomFaults() []fault {
	return []fault{
		{"room 0", api.ErrLimit, func(b *bed.Bed) { b.Room = 0 }},
		{"room -1", api.ErrLimit, func(b *bed.Bed) { b.Room = -1 }},
		{"room 121", api.ErrLimit, func(b *bed.Bed) { b.Room = 121 }},
		{"most room", api.ErrLimit, func(b *bed.Bed) { b.Room = math.MaxInt }},
		{"least room", api.ErrLimit, func(b *bed.Bed) { b.Room = math.MinInt }},
	}
}

func manyFaults() []fault {
	return []fault{
		{"nil months", api.ErrMany, func(b *bed.Bed) { b.Months = nil }},
		{"no months", api.ErrMany, func(b *bed.Bed) { b.Months = months() }},
		{"11 months", api.ErrMany, func(b *bed.Bed) { b.Months = append(b.Months, make([]bed.Month, 11-len(b.Months))...) }},
		{"9 surveys", api.ErrMany, func(b *bed.Bed) { b.Surveys = append(b.Surveys, make([]bed.Survey, 9-len(b.Surveys))...) }},
	}
}

// each returns the faults of a number that is not from 0 to a greatest one.
func each(name string, most int, set func(b *bed.Bed, n int)) []fault {
	var out []fault
	for _, n := range list(-1, most+1, math.MaxInt, math.MinInt) {
		out = append(out, fault{name, api.ErrLimit, func(b *bed.Bed) { set(b, n) }})
	}
	return out
}

// back is the fault of a span that goes back.
func back(name string, set func(b *bed.Bed, x api.Span)) fault {
	return fault{name, api.ErrLimit, func(b *bed.Bed) { set(b, span(3, 2)) }}
}

// last returns the last month, which is there also where other faults left none.
func last(b *bed.Bed) *bed.Month {
	if len(b.Months) == 0 {
		return &bed.Month{}
	}
	return &b.Months[len(b.Months)-1]
}

func limitFaults() []fault {
	return slices.Concat(
		each("first", 50, func(b *bed.Bed, n int) { b.First = n }),
		each("unsure", 40, func(b *bed.Bed, n int) { b.Unsure = n }),
		each("growth", 100, func(b *bed.Bed, n int) { last(b).Growth = n }),
		each("raked", 50, func(b *bed.Bed, n int) { last(b).Raked = n }),
		each("spat from", 60, func(b *bed.Bed, n int) { last(b).Spat.Lo = n }),
		each("spat to", 60, func(b *bed.Bed, n int) { last(b).Spat.Hi = n }),
		each("storm from", 60, func(b *bed.Bed, n int) { last(b).Storm.Lo = n }),
		each("storm to", 60, func(b *bed.Bed, n int) { last(b).Storm.Hi = n }),
		each("found from", 50, func(b *bed.Bed, n int) { b.Surveys[1].Found.Lo = n }),
		each("found to", 50, func(b *bed.Bed, n int) { b.Surveys[1].Found.Hi = n }),
		each("all spat", 60, func(b *bed.Bed, n int) { last(b).Spat = span(n, n) }),
		each("all storm", 60, func(b *bed.Bed, n int) { last(b).Storm = span(n, n) }),
		each("all found", 50, func(b *bed.Bed, n int) { b.Surveys[0].Found = span(n, n) }),
		[]fault{
			back("spat back", func(b *bed.Bed, x api.Span) { last(b).Spat = x }),
			back("storm back", func(b *bed.Bed, x api.Span) { last(b).Storm = x }),
			back("found back", func(b *bed.Bed, x api.Span) { b.Surveys[0].Found = x }),
		},
	)
}

func missingFaults() []fault {
	var out []fault
	for _, n := range list(-1, 3, 10, 11, math.MaxInt, math.MinInt) {
		out = append(out, fault{"survey", api.ErrMissing, func(b *bed.Bed) { b.Surveys[1].Month = n }})
	}
	return append(out, fault{"survey of a month that is gone", api.ErrMissing, func(b *bed.Bed) { b.Surveys[0].Month = 2; b.Months = b.Months[:min(1, len(b.Months))] }})
}

// P4.1: each error of Check, one number beyond each limit.
func TestCheckFaults(t *testing.T) {
	for _, f := range faults() {
		b := surveyed()
		f.spoil(&b)
		if e := bed.Check(b); e != f.e {
			t.Error(f.name, b, e, f.e)
		}
	}
}

// P4.1, R1: of two errors the one is returned that is named first, wherever they are.
func TestCheckOrder(t *testing.T) {
	groups := [][]fault{roomFaults(), manyFaults(), limitFaults(), missingFaults()}
	for i, group := range groups {
		for _, first := range group {
			for _, later := range slices.Concat(groups[i+1:]...) {
				b := surveyed()
				later.spoil(&b)
				first.spoil(&b)
				if e := bed.Check(b); e != first.e {
					t.Error(first.name, later.name, b, e)
				}
			}
		}
	}
}

// P4.1, R3: numbers at their limits are allowed, and so are lists without elements.
func TestCheckAllowed(t *testing.T) {
	for i, change := range []func(b *bed.Bed){
		func(b *bed.Bed) {},
		func(b *bed.Bed) { *b = widest() },
		func(b *bed.Bed) { *b = still(1, 0, 0, 1) },
		func(b *bed.Bed) { *b = still(1, 1, 40, 10) },
		func(b *bed.Bed) { *b = still(120, 120, 0, 1, found(1, 120, 120), found(0, 0, 0)) },
		func(b *bed.Bed) { b.First = 0 },
		func(b *bed.Bed) { b.First = 50 },
		func(b *bed.Bed) { b.Unsure = 0 },
		func(b *bed.Bed) { b.Unsure = 40 },
		func(b *bed.Bed) { b.Months[1] = month(0, 0, span(0, 0), span(0, 0)) },
		func(b *bed.Bed) { b.Months[1] = month(100, 50, span(60, 60), span(60, 60)) },
		func(b *bed.Bed) { b.Months[1] = month(1, 1, span(0, 60), span(0, 60)) },
		func(b *bed.Bed) { b.Months = b.Months[:1]; b.Surveys = surveys(found(1, 0, 50)) },
		func(b *bed.Bed) { b.Months = slices.Repeat(b.Months, 5) },
		func(b *bed.Bed) { b.Surveys = nil },
		func(b *bed.Bed) { b.Surveys = surveys() },
		func(b *bed.Bed) { b.Surveys = slices.Repeat(b.Surveys, 4) },
		func(b *bed.Bed) { b.Surveys = surveys(found(2, 50, 50), found(0, 0, 0), found(1, 0, 50)) },
		func(b *bed.Bed) { *b = poor() },
	} {
		b := surveyed()
		change(&b)
		if e := bed.Check(b); e != api.OK {
			t.Error(i, e)
		}
	}
}

// P4.1: what a month leaves of an amount.
func TestLeaves(t *testing.T) {
	growth := still(120, 0, 0, 3)
	growth.Months[0].Growth, growth.Months[1].Growth, growth.Months[2].Growth = 33, 100, 1
	rough := bed.Bed{Room: 30, Months: months(month(10, 4, span(2, 60), span(1, 60)))}
	for i, x := range []struct {
		b             bed.Bed
		month, amount int
		c             bed.Chance
		want          int
	}{
		{two(), 0, 20, chance(5, 1), 20}, // example 2
		{two(), 0, 18, chance(0, 4), 9},
		{two(), 0, 18, chance(5, 0), 18},
		{two(), 0, 22, chance(0, 4), 14},
		{two(), 0, 22, chance(5, 0), 23},
		{two(), 1, 9, chance(0, 0), 6},
		{two(), 1, 9, chance(0, 6), 0},
		{two(), 1, 23, chance(0, 10), 12},
		{two(), 1, 23, chance(0, 0), 22},
		{two(), 1, 10, chance(0, 0), 8}, // nothing is grown of 9, 1 of 10
		{two(), 1, 19, chance(0, 0), 17},
		{two(found(0, 0, 0)), 0, 20, chance(5, 1), 20}, // surveys do not matter
		{two(), 0, 50, chance(5, 4), 40},               // no more than there is room for, before the storm
		{two(), 0, 50, chance(0, 0), 44},
		{growth, 0, 2, chance(0, 0), 2},
		{growth, 0, 3, chance(0, 0), 3},
		{growth, 0, 4, chance(0, 0), 5},
		{growth, 0, 100, chance(0, 0), 120},
		{growth, 1, 60, chance(0, 0), 120},
		{growth, 1, 61, chance(0, 0), 120},
		{growth, 1, 59, chance(0, 0), 118},
		{growth, 2, 99, chance(0, 0), 99},
		{growth, 2, 100, chance(0, 0), 101},
		{rough, 0, 0, chance(60, 1), 25},
		{rough, 0, 30, chance(60, 26), 0},
		{rough, 0, 11, chance(2, 1), 9},
	} {
		if n, e := bed.Leaves(x.b, x.month, x.amount, x.c); n != x.want || e != api.OK {
			t.Error(i, n, e)
		}
	}
}

// P4.1: the errors of Leaves, in their order.
func TestLeavesErrors(t *testing.T) {
	rough := bed.Bed{Room: 30, Months: months(month(10, 4, span(2, 60), span(1, 60)))}
	for i, x := range []struct {
		b             bed.Bed
		month, amount int
		c             bed.Chance
		e             api.Errno
	}{
		{two(), 2, 51, chance(9, 9), api.ErrMissing}, // the end is no month
		{two(), 2, 5, chance(0, 0), api.ErrMissing},
		{two(), -1, -1, chance(0, 0), api.ErrMissing},
		{two(), math.MaxInt, 0, chance(0, 0), api.ErrMissing},
		{two(), math.MinInt, 0, chance(0, 0), api.ErrMissing},
		{two(), 0, 51, chance(9, 9), api.ErrLimit},
		{two(), 1, -1, chance(0, 0), api.ErrLimit},
		{two(), 1, math.MaxInt, chance(0, 0), api.ErrLimit},
		{two(), 1, math.MinInt, chance(0, 0), api.ErrLimit},
		{two(), 0, 0, chance(6, 4), api.ErrWrong},
		{two(), 0, 20, chance(-1, 0), api.ErrWrong},
		{two(), 0, 20, chance(0, 5), api.ErrWrong},
		{two(), 0, 20, chance(0, -1), api.ErrWrong},
		{two(), 1, 20, chance(1, 0), api.ErrWrong},
		{two(), 1, 0, chance(0, 11), api.ErrWrong},
		{two(), 1, 20, chance(0, math.MaxInt), api.ErrWrong},
		{two(), 1, 20, chance(math.MinInt, 0), api.ErrWrong},
		{rough, 0, 20, chance(1, 1), api.ErrWrong},
		{rough, 0, 20, chance(2, 0), api.ErrWrong},
		{rough, 0, 20, chance(61, 60), api.ErrWrong},
		{two(), 1, 9, chance(0, 7), api.ErrSpent}, // example 2
		{two(), 1, 9, chance(0, 10), api.ErrSpent},
		{two(), 1, 0, chance(0, 0), api.ErrSpent},
		{two(), 0, 0, chance(5, 0), api.ErrSpent},
		{rough, 0, 30, chance(60, 27), api.ErrSpent},
		{rough, 0, 0, chance(2, 60), api.ErrSpent},
	} {
		if n, e := bed.Leaves(x.b, x.month, x.amount, x.c); n != 0 || e != x.e {
			t.Error(i, n, e)
		}
	}
}

// P4.1: the amounts of which a month leaves one.
func TestBefore(t *testing.T) {
	full := still(5, 0, 0, 1)
	full.Months[0] = month(100, 1, span(0, 1), span(0, 0))
	for i, x := range []struct {
		b           bed.Bed
		month, left int
		want        []int
	}{
		{two(), 0, 20, upto(20, 28)},
		{two(), 0, 0, upto(1, 9)},
		{two(), 0, 44, upto(41, 50)},
		{two(), 0, 45, nil}, // there is no room for what would be raked
		{two(), 1, 0, upto(3, 12)},
		{two(), 1, 47, upto(46, 50)},
		{two(), 1, 48, nil},
		{two(), 1, 50, nil},
		{two(found(0, 0, 0), found(1, 0, 0)), 0, 20, upto(20, 28)}, // surveys do not matter
		{poor(), 1, 0, list(4)},
		{poor(), 0, 5, list(5)}, // nor does what is there at the beginning
		{full, 0, 0, list(0)},
		{full, 0, 1, list(1)},
		{full, 0, 2, list(1)},
		{full, 0, 3, list(2)},
		{full, 0, 4, list(2, 3, 4, 5)},
		{full, 0, 5, nil},
	} {
		if got, e := bed.Before(x.b, x.month, x.left); !slices.Equal(got, x.want) || e != api.OK {
			t.Error(i, got, e)
		}
	}
	for i, x := range []struct {
		month, left int
		e           api.Errno
	}{
		{2, 0, api.ErrMissing}, {-1, 0, api.ErrMissing}, {2, 51, api.ErrMissing}, {-1, -1, api.ErrMissing},
		{math.MaxInt, 0, api.ErrMissing}, {math.MinInt, 0, api.ErrMissing},
		{0, 51, api.ErrLimit}, {1, -1, api.ErrLimit}, {0, math.MaxInt, api.ErrLimit}, {0, math.MinInt, api.ErrLimit},
	} {
		if got, e := bed.Before(two(), x.month, x.left); !zero(got) || e != x.e {
			t.Error(i, got, e)
		}
	}
}

// P4.1: the months of many beds, with all their chances.
func TestMonthsMany(t *testing.T) {
	var spent int
	forMany(t, 500, func(_ *rand.Rand, b bed.Bed) {
		o := slow{b}
		for month := range b.Months {
			before := make([][]int, b.Room+1)
			for amount := range b.Room + 1 {
				for _, c := range o.chances(month) {
					n, e := bed.Leaves(b, month, amount, c)
					want, can := o.leaves(month, amount, c, b.Months[month].Raked)
					if can && (n != want || e != api.OK) || !can && (n != 0 || e != api.ErrSpent) {
						t.Error(b, month, amount, c, n, e)
					}
					if !can {
						spent++
					}
				}
				for _, left := range o.left(month, amount) {
					before[left] = append(before[left], amount)
				}
			}
			for left, want := range before {
				if got, e := bed.Before(b, month, left); !slices.Equal(got, want) || e != api.OK {
					t.Error(b, month, left, got, want, e)
				}
			}
		}
	})
	if spent < 1000 {
		t.Error("too few rakings that cannot be to show anything", spent)
	}
}

// call is a function, asked with some arguments of its own.
type call struct {
	name string
	ask  func(b bed.Bed) (isZero bool, e api.Errno)
}

// calls returns all functions but Check; their own arguments are a number n for all that they ask, and lists of it.
func calls(n int) []call {
	return []call{
		{"Leaves", func(b bed.Bed) (bool, api.Errno) { x, e := bed.Leaves(b, n, n, chance(n, n)); return zero(x), e }},
		{"Before", func(b bed.Bed) (bool, api.Errno) { x, e := bed.Before(b, n, n); return zero(x), e }},
		{"Can", func(b bed.Bed) (bool, api.Errno) { x, e := bed.Can(b); return zero(x), e }},
		{"Bounds", func(b bed.Bed) (bool, api.Errno) { x, e := bed.Bounds(b); return zero(x), e }},
		{"Course", func(b bed.Bed) (bool, api.Errno) { x, e := bed.Course(b, n, n); return zero(x), e }},
		{"Chances", func(b bed.Bed) (bool, api.Errno) { x, e := bed.Chances(b, list(n, n, n)); return zero(x), e }},
		{"Agrees", func(b bed.Bed) (bool, api.Errno) { x, e := bed.Agrees(b, list(n, n, n)); return zero(x), e }},
		{"Clash", func(b bed.Bed) (bool, api.Errno) { x, e := bed.Clash(b); return zero(x), e }},
		{"Look", func(b bed.Bed) (bool, api.Errno) { x, y, e := bed.Look(b); return zero(x, y), e }},
		{"Keeps", func(b bed.Bed) (bool, api.Errno) { x, e := bed.Keeps(b, list(n, n), n); return zero(x), e }},
		{"Worst", func(b bed.Bed) (bool, api.Errno) { x, y, e := bed.Worst(b, list(n, n)); return zero(x, y), e }},
		{"Most", func(b bed.Bed) (bool, api.Errno) { x, e := bed.Most(b, n); return zero(x), e }},
		{"Even", func(b bed.Bed) (bool, api.Errno) { x, e := bed.Even(b, n); return zero(x), e }},
		{"Floor", func(b bed.Bed) (bool, api.Errno) { x, e := bed.Floor(b, n); return zero(x), e }},
		{"Kept", func(b bed.Bed) (bool, api.Errno) { x, e := bed.Kept(b, list(n, n, n), n); return zero(x), e }},
		{"Rule", func(b bed.Bed) (bool, api.Errno) { x, y, e := bed.Rule(b, n); return zero(x, y), e }},
	}
}

// P4.1, R1, R2: all functions return the errors of Check first, and zero beside them.
func TestCheckFirst(t *testing.T) {
	for _, f := range faults() {
		b := surveyed()
		f.spoil(&b)
		for _, n := range list(0, 1, -1, 99, math.MaxInt, math.MinInt) {
			for _, x := range calls(n) {
				if isZero, e := x.ask(b); e != f.e || !isZero {
					t.Error(f.name, x.name, n, isZero, e)
				}
			}
		}
	}
}
