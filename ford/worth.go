package ford

import "laurel/api"

// found is the worth of a state, if it is known already.
type found struct {
	worth int
	known bool
}

// worths returns a function that finds the worth of any state, each one once.
// It ends, as each step leads to a later minute.
func (w *work) worths() func(State) int {
	var kept [MaxPlaces][MaxMinute + 1][1 << MaxTruths]found
	var worth func(State) int
	worth = func(x State) int {
		at := &kept[x.Place][x.Minute][x.Left]
		if !at.known {
			most := w.most(x, worth)
			*at = found{worth: most, known: true}
		}
		return at.worth
	}
	return worth
}

// most returns the most that a state is worth if those behind it are worth their numbers; Lost if it is not safe.
func (w *work) most(x State, number func(State) int) int {
	most := Lost
	if x.Place == w.Home && w.isSafe(x) {
		most = 0
	}
	for t := range w.steps(x) {
		most = max(most, w.gain(x, t, number))
	}
	return most
}

// gain returns what a step gives by the numbers of the states to which it comes.
// One that is lost stays so: a minute of work does not bring a cart home.
func (w *work) gain(x State, t Step, number func(State) int) int {
	n := leastOf(w.after(x, t), number)
	if n != Lost && w.isWork(x.Place, t) {
		n++
	}
	return n
}

// start returns the worth of the start at a minute.
func (w *work) start(minute int, worth func(State) int) int {
	return leastOf(w.split(State{Place: w.Home, Minute: minute, Left: w.all()}), worth)
}

// startSeeing returns the worth of the start at a minute if everything is seen at a place.
func (w *work) startSeeing(place, minute int) int {
	seeing := started(w.seeing(place))
	return seeing.start(minute, seeing.worths())
}

// seeing returns sands in which everything is seen at a place; their looks are a copy, as the given ones must stay.
func (w *work) seeing(place int) Sands {
	s := w.Sands
	s.Looks = make([][]int, len(w.Looks))
	for truth, looks := range w.Looks {
		row := make([]int, len(looks))
		copy(row, looks)
		row[place] = truth
		s.Looks[truth] = row
	}
	return s
}

// leastOf returns the least of the numbers of states.
func leastOf(states []State, number func(State) int) int {
	var numbers []int
	for _, x := range states {
		numbers = append(numbers, number(x))
	}
	return least(numbers...)
}

func least(worths ...int) int {
	out := MaxMinute
	for _, n := range worths {
		out = min(out, n)
	}
	return out
}

// table returns the numbers of all states.
func (w *work) table(number func(State) int) Table {
	t := make(Table, w.Places)
	for place := range t {
		t[place] = make([][]int, w.Last+1)
		for minute := range t[place] {
			t[place][minute] = make([]int, w.all()+1)
			for left := range t[place][minute] {
				t[place][minute][left] = number(State{Place: place, Minute: minute, Left: left})
			}
		}
	}
	return t
}

// proof is a table that shows something, if each number of it is bounded by the most that steps give.
type proof struct {
	*work
	table   Table
	bounded func(number, most int) bool
}

// proved reports whether each number of a table is bounded so.
func proved(s Sands, t Table, bounded func(number, most int) bool) (bool, api.Errno) {
	w, e := begin(s)
	if e != api.OK {
		return false, e
	}
	p := proof{work: w, table: t, bounded: bounded}
	if e := p.errorOfTable(); e != api.OK {
		return false, e
	}
	return p.shows(), api.OK
}

func (p proof) errorOfTable() api.Errno {
	hasSets := func(sets []int) bool { return len(sets) == p.all()+1 }
	hasMinutes := func(minutes [][]int) bool { return len(minutes) == p.Last+1 && every(minutes, hasSets) }
	if len(p.table) != p.Places || !every(p.table, hasMinutes) {
		return api.ErrMany
	}
	isNumber := func(n int) bool { return within(n, Lost, MaxMinute) }
	areNumbers := func(sets []int) bool { return every(sets, isNumber) }
	if !every(p.table, func(minutes [][]int) bool { return every(minutes, areNumbers) }) {
		return api.ErrLimit
	}
	return api.OK
}

func (p proof) number(x State) int { return p.table[x.Place][x.Minute][x.Left] }

// shows asks all states; Lost holds for each one, and closes each one that is not safe, as no step gives less.
func (p proof) shows() bool {
	for place, minutes := range p.table {
		for minute, sets := range minutes {
			for left, number := range sets {
				x := State{Place: place, Minute: minute, Left: left}
				if !p.bounded(number, p.most(x, p.number)) {
					return false
				}
			}
		}
	}
	return true
}
