package bed

import (
	"iter"
	"slices"
)

// view is a bed of whose surveys some count.
type view struct {
	*work
	counts func(survey int) bool
}

// whole is a view in which all surveys count.
func (w *work) whole() view {
	return view{work: w, counts: func(int) bool { return true }}
}

// agrees reports whether an amount agrees with all surveys of its month that count.
func (v view) agrees(month, amount int) bool {
	return every(v.surveys[month], func(survey int) bool {
		found := v.Surveys[survey].Found
		return !v.counts(survey) || within(amount, found.Lo, found.Hi)
	})
}

// agreesAll reports whether all amounts of a course agree.
func (v view) agreesAll(course []int) bool {
	for month, amount := range course {
		if !v.agrees(month, amount) {
			return false
		}
	}
	return true
}

// agreeing returns the amounts that agree with all surveys of a month that count.
func (v view) agreeing(month int) amounts {
	return v.amountsThat(func(amount int) bool { return v.agrees(month, amount) })
}

// reached returns for each month and the end the amounts to which a course comes that has agreed so far.
func (v view) reached() []amounts {
	reached := []amounts{v.amountsThat(v.isFirst).and(v.agreeing(0))}
	for month := range v.Months {
		behind := v.after(month, reached[month])
		reached = append(reached, behind.and(v.agreeing(month+1)))
	}
	return reached
}

// can returns for each month and the end the amounts that can be: none in any of them if no course agrees.
func (v view) can() []amounts {
	can := v.reached()
	v.narrow(can, v.end())
	return can
}

// agreed reports whether some course agrees with all of some surveys.
func (w *work) agreed(surveys []int) bool {
	v := view{work: w, counts: func(survey int) bool { return slices.Contains(surveys, survey) }}
	return !v.reached()[w.end()].isNothing()
}

// clash returns the first of the shortest lists of surveys with which no course agrees; nil if there is none.
func (w *work) clash() []int {
	var clash []int
search:
	for size := range len(w.Surveys) + 1 {
		for list := range w.lists(size) {
			if !w.agreed(list) {
				clash = list
				break search
			}
		}
	}
	return clash
}

// lists yields all lists of so many surveys in increasing order, the lists in lexicographic order; each one is new.
func (w *work) lists(size int) iter.Seq[[]int] {
	return func(yield func([]int) bool) {
		var choose func(list []int, from int) bool
		choose = func(list []int, from int) bool {
			if len(list) == size {
				return yield(list)
			}
			for i := from; i < len(w.Surveys); i++ {
				if !choose(append(slices.Clone(list), i), i+1) {
					return false
				}
			}
			return true
		}
		choose(nil, 0)
	}
}
