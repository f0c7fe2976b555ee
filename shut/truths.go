package shut

import (
	"iter"
	"slices"

	"laurel/api"
)

// falls are those of all rains in a truth, and 0 behind the last rain.
type falls [MaxRains]int

// view is a shore of whose tests some count.
type view struct {
	*work
	counts func(test int) bool
}

// weather is falls of all rains, when beds are closed by them, and the origins of each sack that agree with the tests that count.
type weather struct {
	falls  falls
	closed origins
	from   []origins
}

// whole is a view in which all tests count.
func (w *work) whole() view {
	return view{work: w, counts: func(int) bool { return true }}
}

// alike returns how many falls of a rain, from one on, close the same beds at the same tides.
func (w *work) alike(rain, fall int) int {
	many := 1
	for fall+many <= w.Rains[rain].Fall.Hi && w.closes[rain][fall+many] == w.closes[rain][fall] {
		many++
	}
	return many
}

// eachFalls yields falls of all rains: of those that are alike, just the least, as in all of them the same can be.
func (w *work) eachFalls() iter.Seq[falls] {
	return func(yield func(falls) bool) {
		var least falls
		for rain, r := range w.Rains {
			least[rain] = r.Fall.Lo
		}
		for at := least; yield(at); {
			at = w.next(at)
			if at == least {
				return
			}
		}
	}
}

// next returns the falls that are yielded behind others: the least ones behind the last.
func (w *work) next(at falls) falls {
	for rain, r := range slices.Backward(w.Rains) {
		at[rain] += w.alike(rain, at[rain])
		if at[rain] <= r.Fall.Hi {
			return at
		}
		at[rain] = r.Fall.Lo
	}
	return at
}

// weather returns the weather of falls.
func (v view) weather(at falls) weather {
	x := weather{falls: at, closed: v.closedIn(at), from: slices.Clone(v.dug)}
	for i, t := range v.Tests {
		if v.counts(i) {
			x.from[t.Sack] = x.fromWhich(t.Sack, t.Foul)
		}
	}
	return x
}

// fitting yields the weathers of all truths that agree with the tests that count.
func (v view) fitting() iter.Seq[weather] {
	return func(yield func(weather) bool) {
		for at := range v.eachFalls() {
			x := v.weather(at)
			if !slices.ContainsFunc(x.from, origins.areNone) && !yield(x) {
				return
			}
		}
	}
}

// fromWhich returns the origins of a sack from which it is foul, or those from which it is clean.
func (x weather) fromWhich(sack int, foul bool) origins {
	if foul {
		return x.from[sack].inside(x.closed)
	}
	return x.from[sack].outside(x.closed)
}

// canBe reports whether a sack can be foul, or clean.
func (x weather) canBe(sack int, foul bool) bool { return !x.fromWhich(sack, foul).areNone() }

// count returns how many truths fit.
func (w *work) count() int {
	many := 0
	for x := range w.whole().fitting() {
		var numbers []int
		for rain := range w.Rains {
			numbers = append(numbers, w.alike(rain, x.falls[rain]))
		}
		for _, from := range x.from {
			numbers = append(numbers, from.many())
		}
		many += product(numbers...)
	}
	return many
}

func product(numbers ...int) int {
	all := 1
	for _, n := range numbers {
		all *= n
	}
	return all
}

// isTruth reports whether it is one, whether it fits or not.
func (w *work) isTruth(t Truth) bool {
	if len(t.Falls) != len(w.Rains) || len(t.From) != len(w.Sacks) {
		return false
	}
	for rain, fall := range t.Falls {
		if !within(fall, w.Rains[rain].Fall.Lo, w.Rains[rain].Fall.Hi) {
			return false
		}
	}
	for sack, o := range t.From {
		if !w.isSpot(o) || !w.dug[sack].has(o) {
			return false
		}
	}
	return true
}

// foulIn returns the sacks that are foul in a truth.
func (w *work) foulIn(t Truth) []int {
	var at falls
	copy(at[:], t.Falls)
	closed := w.closedIn(at)
	return numbersThat(len(w.Sacks), func(sack int) bool { return closed.has(t.From[sack]) })
}

// agrees reports whether a truth agrees with all tests.
func (w *work) agrees(t Truth) bool {
	foul := w.foulIn(t)
	return every(w.Tests, func(x Test) bool { return slices.Contains(foul, x.Sack) == x.Foul })
}

// shows returns a truth that fits, in which a sack is foul, or clean; an error if there is none.
func (w *work) shows(sack int, foul bool) (Truth, api.Errno) {
	for x := range w.whole().fitting() {
		if x.canBe(sack, foul) {
			x.from[sack] = x.fromWhich(sack, foul)
			return w.truth(x), api.OK
		}
	}
	return Truth{}, api.ErrNone
}

// truth returns a truth of a weather.
func (w *work) truth(x weather) Truth {
	t := Truth{Falls: slices.Clone(x.falls[:len(w.Rains)])}
	for _, from := range x.from {
		t.From = append(t.From, from.list()[0])
	}
	return t
}
