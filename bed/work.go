package bed

import "laurel/api"

// work is a bed that is at work, with the surveys of each month, and of the end.
type work struct {
	Bed
	surveys map[int][]int
}

// begin puts a bed to work, or returns its error.
func begin(b Bed) (*work, api.Errno) {
	if e := Check(b); e != api.OK {
		return nil, e
	}
	w := &work{Bed: b, surveys: map[int][]int{}}
	for survey, x := range w.Surveys {
		w.surveys[x.Month] = append(w.surveys[x.Month], survey)
	}
	return w, api.OK
}

// beginMonth puts a bed to work for an amount of a month.
func beginMonth(b Bed, month, amount int) (*work, api.Errno) {
	w, e := begin(b)
	if e != api.OK {
		return nil, e
	}
	if e := refused(w.isMonth, month, api.ErrMissing); e != api.OK {
		return nil, e
	}
	return w, refused(w.isAmount, amount, api.ErrLimit)
}

// beginShare puts a bed to work for a share.
func beginShare(b Bed, share int) (*work, api.Errno) {
	w, e := begin(b)
	if e != api.OK {
		return nil, e
	}
	return w, refused(w.isAmount, share, api.ErrLimit)
}

// beginCourse puts a bed to work for a list with an amount for each month and the end.
func beginCourse(b Bed, course []int) (*work, api.Errno) {
	w, e := begin(b)
	if e != api.OK {
		return nil, e
	}
	return w, w.errorOfList(course, w.end()+1)
}

// beginPlan puts a bed to work for a list with an amount for each month.
func beginPlan(b Bed, plan []int) (*work, api.Errno) {
	w, e := begin(b)
	if e != api.OK {
		return nil, e
	}
	return w, w.errorOfList(plan, w.end())
}

func (w *work) errorOfList(list []int, many int) api.Errno {
	if len(list) != many {
		return api.ErrMany
	}
	if !every(list, w.isAmount) {
		return api.ErrLimit
	}
	return api.OK
}

// refused returns an error unless a number is what it is asked to be.
func refused(is func(int) bool, n int, e api.Errno) api.Errno {
	if is(n) {
		return api.OK
	}
	return e
}

// every reports whether all elements of a list are what they are asked to be.
func every[T any](list []T, is func(T) bool) bool {
	for _, x := range list {
		if !is(x) {
			return false
		}
	}
	return true
}

func (w *work) countsAllowed() bool {
	return within(len(w.Months), 1, MaxMonths) && len(w.Surveys) <= MaxSurveys
}

func (w *work) numbersAllowed() bool {
	return w.isAmount(w.First) && within(w.Unsure, 0, MaxUnsure) && every(w.Months, w.isAllowed) &&
		every(w.Surveys, func(x Survey) bool { return isSpan(x.Found, w.Room) })
}

func (w *work) isAllowed(m Month) bool {
	return within(m.Growth, 0, MaxGrowth) && w.isAmount(m.Raked) && isSpan(m.Spat, MaxChange) && isSpan(m.Storm, MaxChange)
}

// isSpan reports whether a span has numbers, all of them from 0 to some greatest one.
func isSpan(x api.Span, most int) bool { return within(x.Lo, 0, x.Hi) && x.Hi <= most }

// end returns the number of the month behind the last one.
func (w *work) end() int { return len(w.Months) }

func (w *work) isMonth(month int) bool { return within(month, 0, w.end()-1) }

func (w *work) isMonthOrEnd(month int) bool { return within(month, 0, w.end()) }

func (w *work) isAmount(amount int) bool { return within(amount, 0, w.Room) }

func within(n, least, most int) bool { return least <= n && n <= most }

func greatest(amounts ...int) int {
	out := amounts[0]
	for _, n := range amounts {
		out = max(out, n)
	}
	return out
}
