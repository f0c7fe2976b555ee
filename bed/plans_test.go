package bed_test

import (
	"math"
	"math/rand"
	"slices"
	"testing"

	"laurel/api"
	"laurel/bed"
)

// checkWorst checks that chances are those of all months, and that the least amount comes to an end with them.
func checkWorst(t *testing.T, b bed.Bed, plan []int, got []bed.Chance, end int) {
	t.Helper()
	o := slow{b}
	if len(got) != len(b.Months) {
		t.Error(b, plan, got)
		return
	}
	amount := o.starts()[0]
	for month, c := range got {
		left, can := o.leaves(month, amount, c, plan[month])
		if !can || !slices.Contains(o.chances(month), c) {
			t.Error(b, plan, got, month)
			return
		}
		amount = left
	}
	if amount != end {
		t.Error(b, plan, got, amount, end)
	}
}

// rough is a bed in which spat and storms of two months are never 0.
func rough() bed.Bed {
	return bed.Bed{Room: 40, First: 30, Unsure: 20, Months: months(month(50, 40, span(2, 9), span(3, 7)), month(0, 40, span(10, 60), span(5, 6)))}
}

// P4.5: which plans keep a share, and how little is left with the worst chances.
func TestKeepsAndWorst(t *testing.T) {
	for i, x := range []struct {
		b    bed.Bed
		plan []int
		end  int // -1 if some raking cannot be
	}{
		{two(), list(6, 3), -1}, // example 4
		{two(), list(6, 0), 0},
		{two(), list(0, 0), 6},
		{two(), list(1, 0), 5},
		{two(), list(0, 1), 5},
		{two(), list(15, 0), 0},
		{two(), list(16, 0), -1}, // though some amounts at the beginning let it be
		{two(), list(0, 6), 0},
		{two(), list(0, 7), -1},
		{two(), list(6, 1), -1},
		{two(), list(50, 0), -1},
		{two(), list(50, 50), -1},
		{two(found(0, 22, 22)), list(0, 0), 6}, // surveys do not matter
		{two(found(0, 0, 0)), list(15, 0), 0},
		{poor(), list(1, 0), 0}, // nor does what the bed says of rakings
		{poor(), list(0, 0), 1},
		{poor(), list(0, 2), -1},
		{rough(), list(0, 0), 14},
		{rough(), list(10, 0), 4},
		{rough(), list(10, 4), 0},
		{rough(), list(10, 5), -1},
		{rough(), list(11, 0), -1},
		{still(9, 2, 5, 1), list(0), 0},
		{still(9, 9, 0, 1), list(9), 0},
		{still(9, 9, 0, 10), slices.Repeat(list(0), 10), 9},
		{still(120, 120, 0, 1), list(120), 0},
	} {
		got, end, e := bed.Worst(x.b, x.plan)
		if x.end < 0 {
			if !zero(got, end) || e != api.ErrSpent {
				t.Error(i, got, end, e)
			}
		} else if end != x.end || e != api.OK {
			t.Error(i, got, end, e)
		} else {
			checkWorst(t, x.b, x.plan, got, end)
		}
		for share := range x.b.Room + 1 {
			if is, e := bed.Keeps(x.b, x.plan, share); is != (share <= x.end) || e != api.OK {
				t.Error(i, share, is, e)
			}
		}
	}
}

// P4.5: the errors of plans and shares, in their order.
func TestPlanErrors(t *testing.T) {
	for i, x := range []struct {
		plan  []int
		share int
		e, f  api.Errno
	}{
		{nil, 0, api.ErrMany, api.ErrMany},
		{list(), 0, api.ErrMany, api.ErrMany},
		{list(6), 51, api.ErrMany, api.ErrMany},
		{list(6, 0, 0), 0, api.ErrMany, api.ErrMany},
		{list(-1), 51, api.ErrMany, api.ErrMany},
		{list(0, 51, 0), 0, api.ErrMany, api.ErrMany},
		{list(6, 51), 51, api.ErrLimit, api.ErrLimit},
		{list(51, 0), 0, api.ErrLimit, api.ErrLimit},
		{list(-1, 0), 0, api.ErrLimit, api.ErrLimit},
		{list(50, -1), 0, api.ErrLimit, api.ErrLimit}, // before it is asked whether the raking can be
		{list(0, math.MaxInt), 0, api.ErrLimit, api.ErrLimit},
		{list(math.MinInt, 0), 0, api.ErrLimit, api.ErrLimit},
		{list(6, 0), 51, api.ErrLimit, api.OK},
		{list(6, 0), -1, api.ErrLimit, api.OK},
		{list(50, 50), 51, api.ErrLimit, api.ErrSpent},
		{list(50, 50), math.MaxInt, api.ErrLimit, api.ErrSpent},
		{list(50, 50), math.MinInt, api.ErrLimit, api.ErrSpent},
		{list(50, 50), 50, api.OK, api.ErrSpent},
	} {
		is, e := bed.Keeps(two(), x.plan, x.share)
		got, end, f := bed.Worst(two(), x.plan)
		if is || e != x.e || f != x.f || f != api.OK && !zero(got, end) {
			t.Error(i, is, e, got, end, f)
		}
	}
}

// P4.5: the plans that rake the most, and the same each month.
func TestMostAndEven(t *testing.T) {
	spread := still(12, 6, 2, 3)
	spread.Months[0].Growth, spread.Months[1].Growth = 50, 50
	for i, x := range []struct {
		b     bed.Bed
		share int
		most  []int
		even  int
	}{
		{two(), 0, list(15, 0), 3}, // examples 4 and 5
		{two(), 5, list(0, 1), 0},
		{two(), 6, list(0, 0), 0},
		{two(), 4, list(0, 2), 1},
		{two(found(0, 22, 22)), 5, list(0, 1), 0},
		{poor(), 0, list(0, 1), 0}, // the same sum as 1 and 0
		{poor(), 1, list(0, 0), 0},
		{still(9, 5, 2, 3), 0, list(0, 0, 3), 1},
		{still(9, 5, 2, 3), 1, list(0, 0, 2), 0},
		{still(9, 9, 0, 3), 0, list(0, 0, 9), 3},
		{still(9, 9, 0, 1), 9, list(0), 0},
		{still(9, 9, 0, 1), 0, list(9), 9},
		{spread, 0, list(0, 0, 9), 2}, // 4, 6, 9
		{spread, 3, list(0, 0, 6), 1},
		{rough(), 0, list(0, 14), 7}, // the same sum as 10 and 4
		{rough(), 4, list(0, 10), 5},
		{rough(), 5, list(0, 9), 4},
		{still(120, 120, 0, 1), 0, list(120), 120},
		{still(120, 120, 40, 10), 0, append(slices.Repeat(list(0), 9), 80), 8},
	} {
		most, e := bed.Most(x.b, x.share)
		even, f := bed.Even(x.b, x.share)
		if !slices.Equal(most, x.most) || even != x.even || e != api.OK || f != api.OK {
			t.Error(i, most, even, e, f)
		}
	}
}

// P4.5: shares that are none, and shares that no plan keeps.
func TestMostErrors(t *testing.T) {
	for i, x := range []struct {
		b     bed.Bed
		share int
		e     api.Errno
	}{
		{two(), 7, api.ErrNone},
		{two(), 50, api.ErrNone},
		{poor(), 2, api.ErrNone},
		{still(9, 5, 2, 3), 4, api.ErrNone},
		{still(120, 60, 40, 10), 120, api.ErrNone},
		{two(), 51, api.ErrLimit},
		{two(), -1, api.ErrLimit},
		{two(), math.MaxInt, api.ErrLimit},
		{two(), math.MinInt, api.ErrLimit},
		{poor(), 6, api.ErrLimit},
	} {
		most, e := bed.Most(x.b, x.share)
		even, f := bed.Even(x.b, x.share)
		if !zero(most, even) || e != x.e || f != x.e {
			t.Error(i, most, even, e, f)
		}
	}
}

func sum(plan []int) int {
	out := 0
	for _, raked := range plan {
		out += raked
	}
	return out
}

// checkMost checks the best plans for all shares, by all plans that can be, and how little they leave.
func checkMost(t *testing.T, b bed.Bed, plans [][]int, least []int) {
	t.Helper()
	for share := range b.Room + 1 {
		var best []int
		greatest, even := -1, -1
		for i, plan := range plans {
			if least[i] < share {
				continue
			}
			if sum(plan) > greatest {
				best, greatest = plan, sum(plan)
			}
			if slices.Min(plan) == slices.Max(plan) {
				even = max(even, plan[0])
			}
		}
		most, e := bed.Most(b, share)
		n, f := bed.Even(b, share)
		if best == nil {
			if !zero(most, n) || e != api.ErrNone || f != api.ErrNone {
				t.Error(b, share, most, n, e, f)
			}
		} else if !slices.Equal(most, best) || n != even || e != api.OK || f != api.OK {
			t.Error(b, share, most, best, n, even, e, f)
		}
	}
}

// P4.5: the plans of many beds, whatever chances there are.
func TestPlansMany(t *testing.T) {
	var kept, spent int
	forMany(t, 400, func(r *rand.Rand, b bed.Bed) {
		o := slow{b}
		plans, least := o.plans()
		checkMost(t, b, plans, least)
		for range 20 {
			plan := make([]int, len(b.Months))
			for month := range plan {
				plan[month] = r.Intn(1 + r.Intn(b.Room+1))
			}
			i := slices.IndexFunc(plans, func(x []int) bool { return slices.Equal(x, plan) })
			got, end, e := bed.Worst(b, plan)
			for share := range b.Room + 1 {
				if is, e := bed.Keeps(b, plan, share); is != (i >= 0 && share <= least[i]) || e != api.OK {
					t.Error(b, plan, share, is, e)
				}
			}
			if i < 0 {
				spent++
				if !zero(got, end) || e != api.ErrSpent {
					t.Error(b, plan, got, end, e)
				}
				continue
			}
			kept++
			if end != least[i] || e != api.OK {
				t.Error(b, plan, end, least[i], e)
			}
			checkWorst(t, b, plan, got, end)
		}
	})
	if kept < 1000 || spent < 1000 {
		t.Error("too few plans of a kind to show anything", kept, spent)
	}
}
