package boil

import "laurel/api"

// reach is all ratios from the least to the greatest one.
type reach struct{ least, greatest api.Ratio }

// table says of each two weighings whether they clash, the first one above the second one.
type table [MaxWeighings][MaxWeighings]bool

// work is a house that is at work, with the ratios that each weighing is true with, and which weighings clash.
type work struct {
	House
	ratios  []reach
	clashes table
}

// begin puts a house to work, or returns its error.
func begin(h House) (*work, api.Errno) {
	if e := Check(h); e != api.OK {
		return nil, e
	}
	w := &work{House: h}
	for _, x := range h.Weighings {
		w.ratios = append(w.ratios, reachOf(x))
	}
	w.findClashes()
	return w, api.OK
}

// beginFor puts a house to work for something that it must have.
func beginFor(h House, has func(w *work) bool) (*work, api.Errno) {
	w, e := begin(h)
	if e != api.OK {
		return nil, e
	}
	if !has(w) {
		return nil, api.ErrMissing
	}
	return w, api.OK
}

// beginRatios puts a house to work for a ratio of each month.
func beginRatios(h House, truth []api.Ratio) (*work, api.Errno) {
	w, e := begin(h)
	switch {
	case e != api.OK:
		return nil, e
	case len(truth) != w.Months:
		return nil, api.ErrMany
	case !every(truth, isRatio):
		return nil, api.ErrLimit
	}
	return w, api.OK
}

// beginMeasures puts a house to work for measures of shells, or of meat.
func beginMeasures(h House, measures ...int) (*work, api.Errno) {
	w, e := begin(h)
	if e != api.OK {
		return nil, e
	}
	if !every(measures, func(n int) bool { return within(n, 0, MaxMeasures) }) {
		return nil, api.ErrLimit
	}
	return w, api.OK
}

// every reports whether all elements of a list are what they are asked to be.
func every[T any](list []T, is func(T) bool) bool {
	for _, x := range list {
		if !is(x) {
			return false
		}
	}
	return true
}

// numbersThat returns the numbers below another one that are what they are asked to be.
func numbersThat(below int, are func(n int) bool) []int {
	var out []int
	for n := range below {
		if are(n) {
			out = append(out, n)
		}
	}
	return out
}

func (w *work) countsAllowed() bool {
	return within(w.Months, 1, MaxMonths) && len(w.Weighings) <= MaxWeighings
}

// months returns all months that a house names.
func (w *work) months() []int {
	months := []int{w.Peak}
	for _, x := range w.Weighings {
		months = append(months, x.Month)
	}
	return months
}

// spans returns those of all weighings.
func (w *work) spans() []api.Span {
	var spans []api.Span
	for _, x := range w.Weighings {
		spans = append(spans, x.Shells, x.Meat)
	}
	return spans
}

func isAllowed(s api.Span) bool {
	return within(s.Lo, 1, MaxMeasures) && within(s.Hi, 1, MaxMeasures)
}

func isInOrder(s api.Span) bool { return s.Lo <= s.Hi }

func isRatio(r api.Ratio) bool { return within(r.Num, 1, MaxNumber) && within(r.Den, 1, MaxNumber) }

func (w *work) isMonth(month int) bool { return within(month, 0, w.Months-1) }

func (w *work) isWeighing(weighing int) bool { return within(weighing, 0, len(w.Weighings)-1) }

func within(n, least, most int) bool { return least <= n && n <= most }
