package ford_test

import (
	"math"
	"math/rand"
	"slices"
	"testing"

	"laurel/api"
	"laurel/ford"
)

// far has a bed (place 0) that is as far from home (place 1) as a way can be long; both are always dry.
func far(last int) ford.Sands {
	s := near()
	s.Last = last
	s.Ways[0][2] = 20
	s.Truths[0] = truth(spans(0, last), spans(0, last))
	return s
}

// long has a bed one minute away from home, both dry for all 60 minutes.
func long() ford.Sands {
	s := far(60)
	s.Ways[0][2] = 1
	return s
}

// bell has ways between home (place 0), a bed (place 1) that is dry longer in truth 0, and a channel (place 2) where that is seen.
func bell() ford.Sands {
	return ford.Sands{
		Places: 3, Home: 0, Bed: 1, Last: 10,
		Ways:  [][3]int{{0, 1, 1}, {1, 2, 1}, {2, 0, 1}},
		Looks: [][]int{{0, 0, 0}, {0, 0, 1}},
		Truths: []ford.Truth{
			truth(spans(0, 10), spans(0, 9), spans(0, 10)),
			truth(spans(0, 10), spans(0, 5), spans(0, 10)),
		},
	}
}

// P2.4: worths, and the steps that keep them; none from a state that is lost, or at home for nothing.
func TestWorth(t *testing.T) {
	for i, x := range []struct {
		s    ford.Sands
		x    ford.State
		n    int
		rule ford.Step
	}{
		{three(), at(0, 0, 1), 3, step(1, 2)}, // example 2
		{three(), at(0, 0, 3), 0, ford.Step{}},
		{three(), at(0, 0, 2), 0, ford.Step{}},
		{three(), at(0, 1, 1), 2, step(1, 2)},
		{three(), at(0, 3, 1), 0, ford.Step{}},
		{three(), at(0, 12, 3), 0, ford.Step{}},
		{three(), at(2, 4, 3), 0, step(1, 2)},
		{three(), at(2, 4, 1), 3, step(2, 1)},
		{three(), at(2, 3, 3), 1, step(2, 1)},
		{three(), at(2, 0, 3), 4, step(2, 1)},
		{three(), at(2, 5, 3), ford.Lost, ford.Step{}},
		{three(), at(2, 5, 2), ford.Lost, ford.Step{}},
		{three(), at(2, 7, 1), 0, step(1, 2)},
		{three(), at(2, 8, 1), ford.Lost, ford.Step{}}, // not safe
		{three(), at(1, 9, 1), 0, step(0, 2)},
		{three(), at(1, 10, 1), ford.Lost, ford.Step{}},
		{three(), at(1, 2, 1), 3, step(2, 2)},
		{three(), at(1, 2, 3), 0, step(0, 2)}, // of three steps that keep it the first one, to 0
		{three(), at(1, 4, 1), 1, step(2, 2)},
		{three(), at(1, 1, 1), 4, step(2, 2)},
		{seen(2), at(1, 2, 3), 0, step(0, 2)}, // example 3
		{seen(2), at(2, 4, 3), 0, step(1, 2)},
		{near(), at(0, 2, 1), 1, step(0, 1)}, // it turns at 3
		{near(), at(0, 3, 1), 0, step(1, 1)},
		{near(), at(1, 0, 1), 2, step(0, 1)},
		{near(), at(1, 1, 1), 1, step(0, 1)},
		{near(), at(1, 2, 1), 0, ford.Step{}},
		{near(), at(0, 0, 1), ford.Lost, ford.Step{}},
		{far(40), at(1, 0, 1), 0, ford.Step{}},
		{far(41), at(1, 0, 1), 1, step(0, 20)},
		{far(60), at(1, 0, 1), 20, step(0, 20)},
		{far(60), at(0, 40, 1), 0, step(1, 20)}, // not to wait, which is lost, at a bed that comes first
		{far(60), at(0, 41, 1), ford.Lost, ford.Step{}},
		{far(60), at(0, 60, 1), ford.Lost, ford.Step{}},
		{long(), at(1, 0, 1), 58, step(0, 1)},
		{long(), at(0, 0, 1), 59, step(0, 1)},
		{long(), at(1, 60, 1), 0, ford.Step{}},
		{bell(), at(1, 4, 1), 5, step(1, 1)},
		{bell(), at(1, 4, 2), 1, step(1, 1)},
		{bell(), at(1, 4, 3), 1, step(1, 1)},
		{bell(), at(2, 4, 3), 0, step(0, 1)},
		{bell(), at(0, 4, 3), 0, ford.Step{}},
		{bell(), at(1, 5, 3), 0, step(0, 1)},
		{bell(), at(0, 0, 3), 4, step(1, 1)},
		{bell(), at(0, 0, 1), 8, step(1, 1)},
	} {
		n, e := ford.Worth(x.s, x.x)
		rule, f := ford.Rule(x.s, x.x)
		want := api.OK
		if x.rule == (ford.Step{}) {
			want = api.ErrNone
		}
		if n != x.n || e != api.OK || rule != x.rule || f != want {
			t.Error(i, n, e, rule, f)
		}
	}
}

// P2.4: what is seen on the way helps: at a channel, or at the bed, but at home only who waits there sees it.
func TestWorthOfSeeing(t *testing.T) {
	for place, want := range list(3, 4, 4, 4) {
		s := fork()
		s.Looks[1][place] = 3
		if n, e := ford.Worth(s, at(0, 0, 3)); n != want || e != api.OK {
			t.Error(place, n, e)
		}
	}
}

// P2.4: worths and rules of many sands, state by state.
func TestWorthMany(t *testing.T) {
	forMany(t, 150, func(_ *rand.Rand, s ford.Sands) {
		p := play(s)
		for _, x := range p.states() {
			n, e := ford.Worth(s, x)
			rule, f := ford.Rule(s, x)
			want, g := p.rule(x)
			if n != p.worth(x) || e != api.OK || rule != want || f != g {
				t.Error(s, x, n, p.worth(x), e, rule, want, f, g)
			}
		}
	})
}

// P2.5: the table of small sands, written out.
func TestMade(t *testing.T) {
	lost := ford.Lost
	want := ford.Table{
		{{lost, lost}, {lost, 2}, {lost, 1}, {lost, 0}, {lost, lost}},
		{{lost, 2}, {lost, 1}, {lost, 0}, {lost, 0}, {lost, 0}},
	}
	if made, e := ford.Made(near()); !sameTable(made, want) || e != api.OK {
		t.Error(made, e)
	}
}

// P2.5: the table has the worth of each state, and Lost for the set 0; it holds, and is closed.
func TestMadeMany(t *testing.T) {
	forMany(t, 60, func(_ *rand.Rand, s ford.Sands) {
		made, e := ford.Made(s)
		p := play(s)
		want := emptyTable(s)
		for _, x := range p.states() {
			want[x.Place][x.Minute][x.Left] = p.worth(x)
		}
		if !sameTable(made, want) || e != api.OK {
			t.Error(s, made, want, e)
		}
		checkTable(t, p.slow, made, true, true)
	})
}

// P2.5: Made of the largest sands has all places, minutes and sets.
func TestMadeWidest(t *testing.T) {
	made, e := ford.Made(widest())
	if e != api.OK || len(made) != 5 {
		t.Fatal(len(made), e)
	}
	for place, minutes := range made {
		if len(minutes) != 61 {
			t.Fatal(place, len(minutes))
		}
		for minute, sets := range minutes {
			if len(sets) != 16 || sets[0] != ford.Lost || place == 4 && sets[15] < 0 {
				t.Error(place, minute, sets)
			}
		}
	}
}

// emptyTable returns a table for sands in which all is lost.
func emptyTable(s ford.Sands) ford.Table {
	var out ford.Table
	for range s.Places {
		var minutes [][]int
		for range s.Last + 1 {
			minutes = append(minutes, slices.Repeat(list(ford.Lost), slow{s}.all()+1))
		}
		out = append(out, minutes)
	}
	return out
}

func copiedTable(t ford.Table) ford.Table {
	var out ford.Table
	for _, minutes := range t {
		var sets [][]int
		for _, l := range minutes {
			sets = append(sets, slices.Clone(l))
		}
		out = append(out, sets)
	}
	return out
}

func checkTable(t *testing.T, o slow, table ford.Table, holds, closed bool) {
	t.Helper()
	is, e := ford.Holds(o.Sands, table)
	are, f := ford.Closed(o.Sands, table)
	if is != holds || are != closed || e != api.OK || f != api.OK {
		t.Error(o, table, is, holds, are, closed, e, f)
	}
}

// P2.5: what a table needs to hold, and to be closed, one number after the other.
func TestHoldsAndClosed(t *testing.T) {
	for i, x := range []struct {
		s             ford.Sands
		change        func(t ford.Table)
		holds, closed bool
	}{
		{near(), func(t ford.Table) {}, true, true},
		{near(), func(t ford.Table) { t[1][0][1] = 1 }, true, false}, // a number less
		{near(), func(t ford.Table) { t[1][0][1] = 3 }, false, true}, // a number more
		{near(), func(t ford.Table) { t[1][0][1] = 60 }, false, true},
		{near(), func(t ford.Table) { t[1][4][1] = 1 }, false, false},         // more at home, and less than what leads there
		{near(), func(t ford.Table) { t[1][4][1] = ford.Lost }, false, false}, // the bed at 3 leads there alone
		{near(), func(t ford.Table) { t[1][2][1] = ford.Lost }, true, false},  // a number that no other one needs
		{near(), func(t ford.Table) { t[0][3][1] = ford.Lost }, false, false}, // home, by a step that gives 0
		{near(), func(t ford.Table) { t[0][0][1] = 0 }, false, true},          // not safe
		{near(), func(t ford.Table) { t[0][4][1] = 60 }, false, true},         // nor this one: nobody waits for it
		{near(), func(t ford.Table) { t[1][4][0] = 0 }, false, true},          // the set 0 is not safe
		{near(), func(t ford.Table) { t[0][2][0] = 60 }, false, true},
		{near(), func(t ford.Table) { t[0][1][1], t[1][0][1] = 60, 60 }, false, true},
		{near(), func(t ford.Table) { t[0][1][1], t[1][0][1] = 1, 1 }, true, false}, // less in both, so that they agree
		{near(), func(t ford.Table) { t[1][3][1], t[0][3][1], t[1][4][1] = 0, 0, ford.Lost }, false, false},
		{far(41), func(t ford.Table) {}, true, true},
		{far(41), func(t ford.Table) { t[0][22][1] = 0 }, false, false}, // to wait at the bed until all is lost
		{far(41), func(t ford.Table) { t[0][21][1] = 1 }, false, false}, // to work so that all is lost
		{far(41), func(t ford.Table) { t[0][40][1] = 0 }, false, false},
	} {
		table, e := ford.Made(x.s)
		if len(table) != 2 || len(table[1]) != x.s.Last+1 || e != api.OK {
			t.Fatal(i, table, e)
		}
		x.change(table)
		holds, e := ford.Holds(x.s, table)
		closed, f := ford.Closed(x.s, table)
		if holds != x.holds || closed != x.closed || e != api.OK || f != api.OK {
			t.Error(i, holds, closed, e, f)
		}
	}
}

// P2.5: a table that has not a number for each state, or one that is not allowed; the first error comes first.
func TestTableErrors(t *testing.T) {
	for i, x := range []struct {
		change func(t ford.Table) ford.Table
		e      api.Errno
	}{
		{func(t ford.Table) ford.Table { return nil }, api.ErrMany},
		{func(t ford.Table) ford.Table { return ford.Table{} }, api.ErrMany},
		{func(t ford.Table) ford.Table { return t[:1] }, api.ErrMany},
		{func(t ford.Table) ford.Table { return append(t, t[0]) }, api.ErrMany},
		{func(t ford.Table) ford.Table { t[0] = nil; return t }, api.ErrMany},
		{func(t ford.Table) ford.Table { t[1] = t[1][:4]; return t }, api.ErrMany},
		{func(t ford.Table) ford.Table { t[0] = append(t[0], t[0][0]); return t }, api.ErrMany},
		{func(t ford.Table) ford.Table { t[1][4] = nil; return t }, api.ErrMany},
		{func(t ford.Table) ford.Table { t[1][4] = list(0); return t }, api.ErrMany},
		{func(t ford.Table) ford.Table { t[0][0] = list(0, 0, 0); return t }, api.ErrMany},
		{func(t ford.Table) ford.Table { t[0][0][0] = 61; t[1][4] = list(0); return t }, api.ErrMany},
		{func(t ford.Table) ford.Table { t[0][0][0] = 61; return t[:1] }, api.ErrMany},
		{func(t ford.Table) ford.Table { t[0][0][0] = 61; return t }, api.ErrLimit},
		{func(t ford.Table) ford.Table { t[1][4][1] = 61; return t }, api.ErrLimit},
		{func(t ford.Table) ford.Table { t[0][2][1] = -2; return t }, api.ErrLimit},
		{func(t ford.Table) ford.Table { t[1][4][0] = -2; return t }, api.ErrLimit},
		{func(t ford.Table) ford.Table { t[0][0][0] = math.MaxInt; return t }, api.ErrLimit},
		{func(t ford.Table) ford.Table { t[1][2][1] = math.MinInt; return t }, api.ErrLimit},
		{func(t ford.Table) ford.Table { t[0][0][0], t[1][0][0] = 60, -1; return t }, api.OK},
	} {
		table, e := ford.Made(near())
		if len(table) != 2 || len(table[1]) != 5 || len(table[0]) != 5 || e != api.OK {
			t.Fatal(i, table, e)
		}
		table = x.change(table)
		holds, e := ford.Holds(near(), table)
		closed, f := ford.Closed(near(), table)
		if e != x.e || f != x.e || e != api.OK && (holds || closed) {
			t.Error(i, holds, closed, e, f)
		}
	}
}

// numbers returns those that a table has for states.
func numbers(t ford.Table, l []ford.State) []int {
	var out []int
	for _, x := range l {
		out = append(out, t[x.Place][x.Minute][x.Left])
	}
	return out
}

// holds asks all states of a table, those with the set 0 among them.
func (o slow) holds(t ford.Table) bool {
	fits := func(x ford.State, n int) bool {
		if !o.isSafe(x) {
			return false
		}
		if x.Place == o.Home && n == 0 {
			return true
		}
		for _, s := range o.steps(x) {
			l := numbers(t, o.after(x, s))
			if slices.Min(l) >= n || o.works(x.Place, s) == 1 && slices.Min(l) >= n-1 && !slices.Contains(l, ford.Lost) {
				return true
			}
		}
		return false
	}
	for place := range t {
		for minute := range t[place] {
			for left, n := range t[place][minute] {
				if n != ford.Lost && !fits(at(place, minute, left), n) {
					return false
				}
			}
		}
	}
	return true
}

// isClosed asks all safe states of a table.
func (o slow) isClosed(t ford.Table) bool {
	for _, x := range o.states() {
		n := t[x.Place][x.Minute][x.Left]
		if !o.isSafe(x) {
			continue
		}
		if x.Place == o.Home && n < 0 {
			return false
		}
		for _, s := range o.steps(x) {
			l := numbers(t, o.after(x, s))
			if !slices.Contains(l, ford.Lost) && n < slices.Min(l)+o.works(x.Place, s) {
				return false
			}
		}
	}
	return true
}

// P2.5: tables of many sands, with some numbers changed, hold and are closed as the terms say.
func TestTablesMany(t *testing.T) {
	var held, shut int
	forMany(t, 250, func(r *rand.Rand, s ford.Sands) {
		o := slow{s}
		made, e := ford.Made(s)
		if e != api.OK {
			t.Fatal(s, e)
		}
		for range 20 {
			table := copiedTable(made)
			for range 1 + r.Intn(3) {
				sets := table[r.Intn(s.Places)][r.Intn(s.Last+1)]
				left := r.Intn(len(sets))
				sets[left] = max(ford.Lost, sets[left]+r.Intn(5)-2)
			}
			holds, closed := o.holds(table), o.isClosed(table)
			checkTable(t, o, table, holds, closed)
			if holds {
				held++
			}
			if closed {
				shut++
			}
		}
	})
	if held < 500 || shut < 500 || held > 4500 || shut > 4500 {
		t.Error("too few tables of a kind to show anything", held, shut)
	}
}
