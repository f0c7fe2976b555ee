package bed

import "slices"

// noPlan stands for the sum of rakings if no share is left: so much less than 0 that no rakings make up for it.
const noPlan = -MaxRoom*MaxMonths - 1

// planned returns the bed with another plan; its months are a copy, as the given ones must stay.
func (w *work) planned(plan []int) *work {
	x := *w
	x.Months = make([]Month, len(w.Months))
	copy(x.Months, w.Months)
	for month, raked := range plan {
		x.Months[month].Raked = raked
	}
	return &x
}

// leastEnd returns the least amount that can be at the end, and whether all rakings can be, whatever chances there are.
// A month never leaves less of more, so the least amount with the worst chances tells it.
func (w *work) leastEnd() (int, bool) {
	amount := w.least()
	for month := range w.Months {
		amount = w.left(month, amount, w.worst(month))
		if amount < 0 {
			return 0, false
		}
	}
	return amount, true
}

// keeps reports whether a plan keeps a share.
func (w *work) keeps(plan []int, share int) bool {
	end, can := w.planned(plan).leastEnd()
	return can && end >= share
}

// sure returns what lies there at the end of a month for certain, before anything is raked.
func (w *work) sure(month, amount int) int { return w.held(month, amount, w.worst(month)) }

// sums are the greatest sums of rakings from each month on, by the amounts that are there for certain.
type sums [MaxMonths + 1][MaxRoom + 1]int

// sumsFor returns the sums with which a share is left at the end; less than 0 if none is.
func (w *work) sumsFor(share int) *sums {
	var s sums
	for amount := range share {
		s[w.end()][amount] = noPlan
	}
	for month := w.end() - 1; month >= 0; month-- {
		for amount := range w.Room + 1 {
			s[month][amount] = greatest(s.choices(month, w.sure(month, amount))...)
		}
	}
	return &s
}

// choices returns the sum of each raking that can be in a month, in increasing order of the rakings, if so much is there for certain.
func (s *sums) choices(month, sure int) []int {
	var out []int
	for raked := range sure + 1 {
		out = append(out, raked+s[month+1][sure-raked])
	}
	return out
}

// most returns the first plan of those that rake the most and keep a share, and whether there is one.
func (w *work) most(share int) ([]int, bool) {
	s := w.sumsFor(share)
	amount := w.least()
	if s[0][amount] < 0 {
		return nil, false
	}
	var plan []int
	for month := range w.Months {
		sure := w.sure(month, amount)
		raked := slices.Index(s.choices(month, sure), s[month][amount])
		plan = append(plan, raked)
		amount = sure - raked
	}
	return plan, true
}

// floor returns the least floor that is kept for a share, and whether there is one.
func (w *work) floor(share int) ([]int, bool) {
	floor := make([]int, w.end()+1)
	floor[w.end()] = share
	for month := w.end() - 1; month >= 0; month-- {
		least, is := w.leastFor(month, floor[month+1])
		if !is {
			return nil, false
		}
		floor[month] = least
	}
	return floor, true
}

// leastFor returns the least amount of which a month, without any raking, leaves so much for certain, and whether there is one.
// It leaves as much of each greater one.
func (w *work) leastFor(month, left int) (int, bool) {
	for amount := range w.Room + 1 {
		if w.sure(month, amount) >= left {
			return amount, true
		}
	}
	return 0, false
}

// isKept reports whether each month, without any raking, leaves at least the floor of the next one of its own floor.
// Then it leaves as much of each greater amount.
func (w *work) isKept(floor []int) bool {
	for month := range w.Months {
		if w.sure(month, floor[month]) < floor[month+1] {
			return false
		}
	}
	return true
}

// rule returns what can be raked in each month of each amount, so that the floor of the next month is left.
func (w *work) rule(floor []int) [][]int {
	rule := make([][]int, w.end())
	for month := range rule {
		for amount := range w.Room + 1 {
			rule[month] = append(rule[month], greatest(0, w.sure(month, amount)-floor[month+1]))
		}
	}
	return rule
}

// leastSum returns the least sum of rakings by a rule that leaves no more than the floor with the worst chances.
// These come to the floor of each month, of which least is raked; so no other chances come to a lesser sum.
func (w *work) leastSum(rule [][]int) int {
	sum, amount := 0, w.least()
	for month, rakings := range rule {
		raked := rakings[amount]
		sum += raked
		amount = w.sure(month, amount) - raked
	}
	return sum
}
