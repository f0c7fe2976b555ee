package bed_test

import (
	"math"
	"math/rand"
	"slices"
	"testing"

	"laurel/api"
	"laurel/bed"
)

// P4.6: the floor with the least amounts.
func TestFloor(t *testing.T) {
	for i, x := range []struct {
		b     bed.Bed
		share int
		want  []int
		e     api.Errno
	}{
		{two(), 5, list(17, 14, 5), api.OK}, // example 5
		{two(), 6, list(18, 15, 6), api.OK},
		{two(), 7, list(19, 16, 7), api.OK}, // though less than that can be there at the beginning
		{two(), 0, list(0, 0, 0), api.OK},
		{two(), 40, list(46, 46, 40), api.OK},
		{two(), 41, nil, api.ErrNone}, // there is no room for what the storm takes
		{two(), 50, nil, api.ErrNone},
		{two(found(0, 0, 0)), 5, list(17, 14, 5), api.OK}, // surveys do not matter
		{poor(), 5, list(5, 5, 5), api.OK},                // nor does what the bed says of rakings
		{poor(), 0, list(0, 0, 0), api.OK},
		{rough(), 0, list(0, 0, 0), api.OK},
		{rough(), 4, list(0, 0, 4), api.OK}, // of 0 the spat and the storm leave 4
		{rough(), 5, list(4, 1, 5), api.OK},
		{rough(), 34, list(24, 30, 34), api.OK},
		{rough(), 35, nil, api.ErrNone},
		{still(120, 0, 0, 10), 120, slices.Repeat(list(120), 11), api.OK},
		{two(), 51, nil, api.ErrLimit},
		{two(), -1, nil, api.ErrLimit},
		{two(), math.MaxInt, nil, api.ErrLimit},
		{two(), math.MinInt, nil, api.ErrLimit},
	} {
		if got, e := bed.Floor(x.b, x.share); !slices.Equal(got, x.want) || e != x.e {
			t.Error(i, got, e)
		}
	}
}

// P4.6: which floors are kept.
func TestKept(t *testing.T) {
	for i, x := range []struct {
		b     bed.Bed
		floor []int
		share int
		is    bool
	}{
		{two(), list(17, 14, 5), 5, true},
		{two(), list(16, 14, 5), 5, false},
		{two(), list(17, 13, 5), 5, false},
		{two(), list(17, 14, 4), 5, false},
		{two(), list(17, 14, 5), 6, false},
		{two(), list(17, 14, 5), 0, true},
		{two(), list(17, 14, 6), 5, false},
		{two(), list(17, 15, 6), 5, false},
		{two(), list(30, 20, 6), 5, true},
		{two(), list(50, 46, 40), 40, true},
		{two(), list(50, 47, 40), 40, false}, // no amount leaves as much
		{two(), list(50, 50, 41), 0, false},
		{two(), list(0, 0, 0), 0, true},
		{two(), list(50, 0, 0), 0, true},
		{two(), list(50, 50, 50), 50, false},
		{two(found(0, 0, 0)), list(17, 14, 5), 5, true},
		{poor(), list(2, 2, 2), 2, true},
		{poor(), list(2, 3, 3), 3, false},
		{rough(), list(4, 0, 4), 4, true},
		{rough(), list(3, 0, 4), 4, true}, // the least amount alone is 0
		{rough(), list(0, 0, 5), 4, false},
	} {
		if is, e := bed.Kept(x.b, x.floor, x.share); is != x.is || e != api.OK {
			t.Error(i, is, e)
		}
	}
}

// P4.6: the errors of Kept, in their order.
func TestKeptErrors(t *testing.T) {
	for i, x := range []struct {
		floor []int
		share int
		e     api.Errno
	}{
		{nil, 0, api.ErrMany},
		{list(), 51, api.ErrMany},
		{list(17, 14), 51, api.ErrMany},
		{list(17, 51), 5, api.ErrMany},
		{list(17, 14, 5, 5), 5, api.ErrMany},
		{list(17, -1, 5, 5), -1, api.ErrMany},
		{list(17, 51, 5), 51, api.ErrLimit},
		{list(51, 14, 5), 5, api.ErrLimit},
		{list(17, 14, -1), 0, api.ErrLimit},
		{list(17, math.MinInt, 5), 5, api.ErrLimit},
		{list(17, 14, math.MaxInt), 5, api.ErrLimit},
		{list(17, 14, 5), 51, api.ErrLimit},
		{list(17, 14, 5), -1, api.ErrLimit},
		{list(0, 0, 0), math.MinInt, api.ErrLimit},
		{list(50, 50, 50), math.MaxInt, api.ErrLimit},
	} {
		if is, e := bed.Kept(two(), x.floor, x.share); is || e != x.e {
			t.Error(i, is, e)
		}
	}
}

// P4.6: what a rule rakes, month by month, and the least sum that it comes to.
func TestRule(t *testing.T) {
	fixed := bed.Bed{Room: 6, First: 4, Unsure: 1, Months: months(month(0, 6, span(1, 2), span(2, 3)), month(50, 6, span(0, 0), span(0, 1)))}
	for i, x := range []struct {
		b     bed.Bed
		share int
		want  [][]int
		sum   int
		e     api.Errno
	}{
		{fixed, 0, lists(list(0, 0, 0, 1, 2, 3, 3), list(0, 0, 2, 3, 5, 5, 5)), 1, api.OK},
		{fixed, 2, nil, 0, api.ErrNone},
		{fixed, 6, nil, 0, api.ErrNone}, // there is no floor
		{poor(), 1, lists(list(0, 0, 1, 2, 3, 4), list(0, 0, 1, 2, 3, 4)), 0, api.OK},
		{poor(), 0, lists(upto(0, 5), upto(0, 5)), 1, api.OK},
		{poor(), 2, nil, 0, api.ErrNone}, // the least amount at the beginning is 1
		{still(3, 3, 0, 1), 1, lists(list(0, 0, 1, 2)), 2, api.OK},
		{still(3, 0, 3, 1), 0, lists(list(0, 1, 2, 3)), 0, api.OK},
		{still(3, 3, 0, 1), 3, lists(list(0, 0, 0, 0)), 0, api.OK},
		{still(3, 2, 0, 1), 3, nil, 0, api.ErrNone},
		{still(3, 3, 1, 1), 3, nil, 0, api.ErrNone},
		{two(), 7, nil, 0, api.ErrNone},
		{two(), 41, nil, 0, api.ErrNone},
		{two(), 51, nil, 0, api.ErrLimit},
		{two(), -1, nil, 0, api.ErrLimit},
		{two(), math.MaxInt, nil, 0, api.ErrLimit},
		{two(), math.MinInt, nil, 0, api.ErrLimit},
	} {
		if got, sum, e := bed.Rule(x.b, x.share); !sameLists(got, x.want) || sum != x.sum || e != x.e {
			t.Error(i, got, sum, e)
		}
	}
}

// P4.6: the rule of example 5, and those of the other shares of its bed.
func TestRuleOfExample(t *testing.T) {
	for share, want := range list(15, 5, 4, 3, 2, 1, 0) {
		rule, sum, e := bed.Rule(two(found(1, 0, 0)), share)
		if sum != want || len(rule) != 2 || len(rule[0]) != 51 || len(rule[1]) != 51 || e != api.OK {
			t.Fatal(share, rule, sum, e)
		}
		if share == 5 && (rule[0][18] != 1 || rule[0][17] != 0 || rule[0][3] != 0 || rule[0][20] != 4 || rule[0][50] != 32 ||
			rule[1][14] != 0 || rule[1][15] != 1 || rule[1][20] != 7 || rule[1][50] != 35) {
			t.Error(rule)
		}
	}
}

// P4.6: the floors of many beds, by all floors that are kept.
func TestFloorsMany(t *testing.T) {
	var kept, not, none int
	forMany(t, 150, func(r *rand.Rand, b bed.Bed) {
		o := slow{b}
		for share := range b.Room + 1 {
			floors := o.floors(share)
			got, e := bed.Floor(b, share)
			if len(floors) == 0 {
				none++
				if !zero(got) || e != api.ErrNone {
					t.Error(b, share, got, e)
				}
				continue
			}
			for month := range floors[0] {
				for _, floor := range floors {
					floors[0][month] = min(floors[0][month], floor[month])
				}
			}
			// The least amounts of all floors are a floor, too.
			if !slices.Equal(got, floors[0]) || e != api.OK {
				t.Error(b, share, got, floors[0], e)
			}
		}
		for range 50 {
			share := r.Intn(b.Room + 1)
			floor, e := bed.Floor(b, share)
			if e != api.OK || r.Intn(3) == 0 {
				floor = slices.Repeat(list(r.Intn(b.Room+1)), len(b.Months)+1)
			}
			floor[r.Intn(len(floor))] = r.Intn(b.Room + 1)
			is, e := bed.Kept(b, floor, share)
			if is != o.isKept(floor, share) || e != api.OK {
				t.Error(b, floor, share, is, e)
			}
			if is {
				kept++
			} else {
				not++
			}
		}
	})
	if kept < 1000 || not < 1000 || none < 100 {
		t.Error("too few floors of a kind to show anything", kept, not, none)
	}
}

// P4.6: the rules of many beds, whatever chances there are.
func TestRulesMany(t *testing.T) {
	var ruled, none int
	forMany(t, 1000, func(_ *rand.Rand, b bed.Bed) {
		o := slow{b}
		for share := range b.Room + 1 {
			rule, sum, e := bed.Rule(b, share)
			floor, f := bed.Floor(b, share)
			if f != api.OK || o.starts()[0] < floor[0] {
				none++
				if !zero(rule, sum) || e != api.ErrNone {
					t.Error(b, share, rule, sum, e)
				}
				continue
			}
			ruled++
			checkRule(t, o, share, floor, rule)
			ends, can := o.ends(func(month, amount int) int { return rule[month][amount] })
			least := math.MaxInt
			for x := range ends {
				least = min(least, x.sum)
				if x.amount < share {
					t.Error(b, share, rule, x)
				}
			}
			if sum != least || !can || e != api.OK {
				t.Error(b, share, rule, sum, least, can, e)
			}
		}
	})
	if ruled < 1000 || none < 1000 {
		t.Error("too few rules of a kind to show anything", ruled, none)
	}
}

// checkRule checks each number of a rule.
func checkRule(t *testing.T, o slow, share int, floor []int, rule [][]int) {
	t.Helper()
	if len(rule) != len(o.Months) {
		t.Fatal(o.Bed, share, rule)
	}
	for month, rakings := range rule {
		if len(rakings) != o.Room+1 {
			t.Fatal(o.Bed, share, rule)
		}
		for amount, raked := range rakings {
			if want := o.most(floor, month, amount); raked != want {
				t.Error(o.Bed, share, month, amount, raked, want)
			}
		}
	}
}
