package branch

import "laurel/api"

// work is a channel that is at work, with the reaches of its cells.
type work struct {
	Channel
	reaches [MaxCells]int
}

// begin puts a channel to work, or returns its error.
func begin(c Channel) (*work, api.Errno) {
	if e := Check(c); e != api.OK {
		return nil, e
	}
	return started(c), api.OK
}

// started puts a channel to work that is allowed, but for the number of its sights.
func started(c Channel) *work {
	w := &work{Channel: c}
	for _, x := range w.Sands {
		for cell := x.Span.Lo; cell <= x.Span.Hi; cell++ {
			w.reaches[cell] = max(w.reaches[cell], x.Reach)
		}
	}
	return w
}

// beginAfter puts a channel to work for a number of tides that are over.
func beginAfter(c Channel, after int) (*work, api.Errno) {
	w, e := begin(c)
	if e != api.OK {
		return nil, e
	}
	return w, refused(w.isAfter, after, api.ErrLimit)
}

// refused returns an error unless a number is what it is asked to be.
func refused(is func(int) bool, n int, e api.Errno) api.Errno {
	if is(n) {
		return api.OK
	}
	return e
}

// every reports whether all elements of a list are what they are asked to be.
func every[T any](list []T, is func(T) bool) bool {
	for _, x := range list {
		if !is(x) {
			return false
		}
	}
	return true
}

func (w *work) countsAllowed() bool {
	return within(w.Cells, 2, MaxCells) && within(w.Tides, 0, MaxTides) && within(len(w.Fords), 1, MaxFords) &&
		len(w.Sands) <= MaxSands && len(w.Sights) <= MaxSights
}

func (w *work) numbersAllowed() bool {
	return every(w.Sands, func(x Sand) bool { return within(x.Reach, 1, MaxReach) }) &&
		every(w.Sights, func(x Sight) bool { return w.isAfter(x.After) })
}

func (w *work) inCells() bool {
	return every(w.Fords, w.isCell) &&
		every(w.Sands, func(x Sand) bool { return w.isCell(x.Span.Lo) && w.isCell(x.Span.Hi) }) &&
		every(w.Sights, func(x Sight) bool { return w.isCell(x.Cell) })
}

func (w *work) inOrder() bool {
	for i, cell := range w.Fords[1:] {
		if cell <= w.Fords[i] {
			return false
		}
	}
	return every(w.Sands, func(x Sand) bool { return x.Span.Lo <= x.Span.Hi })
}

// areOnce reports whether no sight is listed twice.
func areOnce(sights []int) bool {
	met := map[int]bool{}
	return every(sights, func(sight int) bool {
		again := met[sight]
		met[sight] = true
		return !again
	})
}

func (w *work) isCell(cell int) bool { return within(cell, 0, w.Cells-1) }

func (w *work) isAfter(after int) bool { return within(after, 0, w.Tides) }

func (w *work) isFord(ford int) bool { return within(ford, 0, len(w.Fords)-1) }

func (w *work) isSight(sight int) bool { return within(sight, 0, len(w.Sights)-1) }

func within(n, least, most int) bool { return least <= n && n <= most }
