package bed

import (
	"iter"

	"laurel/api"
)

// amounts tells of each amount whether it can be.
type amounts [MaxRoom + 1]bool

// only is the one amount that can be.
func only(amount int) amounts {
	var out amounts
	out[amount] = true
	return out
}

// amountsThat returns the amounts that are what they are asked to be.
func (w *work) amountsThat(are func(amount int) bool) amounts {
	var out amounts
	for amount := range w.Room + 1 {
		out[amount] = are(amount)
	}
	return out
}

// and returns the amounts that can be by both.
func (x amounts) and(y amounts) amounts {
	for amount, can := range y {
		x[amount] = x[amount] && can
	}
	return x
}

func (x amounts) isNothing() bool { return x == amounts{} }

// list returns the amounts that can be, in increasing order.
func (x amounts) list() []int {
	var out []int
	for amount, can := range x {
		if can {
			out = append(out, amount)
		}
	}
	return out
}

// isFirst reports whether an amount can be at the beginning of month 0, if it is one.
func (w *work) isFirst(amount int) bool {
	return within(amount, w.First-w.Unsure, w.First+w.Unsure)
}

// least returns the least amount at the beginning of month 0.
func (w *work) least() int { return greatest(0, w.First-w.Unsure) }

// held returns what lies there at the end of a month, before anything is raked.
func (w *work) held(month, amount int, c Chance) int {
	grown := amount + amount*w.Months[month].Growth/100
	return greatest(0, min(grown+c.Spat, w.Room)-c.Storm)
}

// left returns what a month leaves of an amount; less than 0 if the raking cannot be.
func (w *work) left(month, amount int, c Chance) int {
	return w.held(month, amount, c) - w.Months[month].Raked
}

// worst returns the chance with which a month leaves the least of any amount.
func (w *work) worst(month int) Chance {
	m := w.Months[month]
	return Chance{Spat: m.Spat.Lo, Storm: m.Storm.Hi}
}

// best returns the chance with which a month leaves the most of any amount.
func (w *work) best(month int) Chance {
	m := w.Months[month]
	return Chance{Spat: m.Spat.Hi, Storm: m.Storm.Lo}
}

// leaves yields the amounts that a month can leave of an amount, in increasing order.
// They have no gaps, as one spat or storm more changes what is left by 1 at most.
func (w *work) leaves(month, amount int) iter.Seq[int] {
	least, most := w.left(month, amount, w.worst(month)), w.left(month, amount, w.best(month))
	return func(yield func(int) bool) {
		for left := greatest(0, least); left <= most; left++ {
			if !yield(left) {
				return
			}
		}
	}
}

// after returns the amounts that a month can leave of some amounts.
func (w *work) after(month int, from amounts) amounts {
	var out amounts
	for _, amount := range from.list() {
		for left := range w.leaves(month, amount) {
			out[left] = true
		}
	}
	return out
}

// before returns the amounts of which a month can leave one of some amounts.
func (w *work) before(month int, to amounts) amounts {
	return w.amountsThat(func(amount int) bool {
		for left := range w.leaves(month, amount) {
			if to[left] {
				return true
			}
		}
		return false
	})
}

// narrow keeps of what can be before a month the amounts that lead on to what can be in it.
func (w *work) narrow(can []amounts, month int) {
	for month > 0 {
		month--
		can[month] = can[month].and(w.before(month, can[month+1]))
	}
}

// firstOf returns the first course of amounts that can be, all of which lead on to others.
func (w *work) firstOf(can []amounts) []int {
	course := []int{can[0].list()[0]}
	for month := range w.Months {
		for left := range w.leaves(month, course[month]) {
			if can[month+1][left] {
				course = append(course, left)
				break
			}
		}
	}
	return course
}

// chances yields all chances of a month: those with the least Spat first, of these those with the least Storm.
func (w *work) chances(month int) iter.Seq[Chance] {
	return func(yield func(Chance) bool) {
		m := w.Months[month]
		for spat := range numbers(m.Spat) {
			for storm := range numbers(m.Storm) {
				if !yield(Chance{Spat: spat, Storm: storm}) {
					return
				}
			}
		}
	}
}

// numbers yields those of a span.
func numbers(x api.Span) iter.Seq[int] {
	return func(yield func(int) bool) {
		for n := x.Lo; n <= x.Hi; n++ {
			if !yield(n) {
				return
			}
		}
	}
}

// isChance reports whether a chance is one of a month.
func (w *work) isChance(month int, c Chance) bool {
	for other := range w.chances(month) {
		if other == c {
			return true
		}
	}
	return false
}

// chance returns the first one with which a month leaves an amount of another one, and whether there is one.
func (w *work) chance(month, amount, left int) (Chance, bool) {
	for c := range w.chances(month) {
		if w.left(month, amount, c) == left {
			return c, true
		}
	}
	return Chance{}, false
}

// chancesOf returns the first chances of a course, and whether it is one.
func (w *work) chancesOf(course []int) ([]Chance, bool) {
	if !w.isFirst(course[0]) {
		return nil, false
	}
	var chances []Chance
	for month := range w.Months {
		c, is := w.chance(month, course[month], course[month+1])
		if !is {
			return nil, false
		}
		chances = append(chances, c)
	}
	return chances, true
}
