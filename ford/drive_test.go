package ford_test

import (
	"math"
	"math/rand"
	"slices"
	"testing"

	"laurel/api"
	"laurel/ford"
)

// there are the steps from home to the bed of the examples.
func there() []ford.Step { return steps(step(1, 2), step(2, 2)) }

// work is some minutes at the bed of the examples.
func work(minutes int) []ford.Step { return slices.Repeat(steps(step(2, 1)), minutes) }

// back are the steps from the bed of the examples to home.
func back() []ford.Step { return steps(step(1, 2), step(0, 2)) }

// P2.7: fixed ways, the truths in which they are safe, and how long the cart works.
func TestFixed(t *testing.T) {
	for i, x := range []struct {
		s           ford.Sands
		minute      int
		steps       []ford.Step
		set, worked int
	}{
		{three(), 0, slices.Concat(there(), back()), 3, 0}, // example 4
		{three(), 0, slices.Concat(there(), work(1), back()), 1, 1},
		{three(), 0, slices.Concat(there(), work(3), back()), 1, 3},
		{three(), 0, slices.Concat(there(), work(4), back()), 0, 4}, // the bed is wet
		{three(), 1, slices.Concat(there(), back()), 1, 0},
		{three(), 3, slices.Concat(there(), back()), 1, 0},
		{three(), 4, slices.Concat(there(), back()), 0, 0},          // the channel is wet
		{seen(1), 0, slices.Concat(there(), work(1), back()), 1, 1}, // whatever it sees
		{seen(2), 0, slices.Concat(there(), work(1), back()), 1, 1},
		{three(), 0, there(), 0, 0}, // it is not at home at the end
		{three(), 0, slices.Concat(there(), work(2)), 0, 2},
		{three(), 0, steps(step(1, 2)), 0, 0},
		{three(), 0, nil, 3, 0},
		{three(), 12, nil, 3, 0},
		{three(), 12, steps(), 3, 0},
		{three(), 10, steps(step(0, 1), step(0, 1)), 3, 0}, // a wait at home is no work
		{three(), 0, steps(step(1, 2), step(1, 1), step(0, 2)), 3, 0},
		{three(), 5, steps(step(1, 2), step(0, 2)), 1, 0},                                 // in truth 1 the channel is wet when it comes
		{three(), 0, slices.Concat(there(), back(), steps(step(1, 2), step(0, 2))), 0, 0}, // the channel is wet when it comes again
		{three(), 0, slices.Concat(there(), work(1), back(), steps(step(0, 1), step(0, 1))), 1, 1},
		{shut(), 0, nil, 1, 0},
		{shut(), 0, slices.Concat(there(), back()), 1, 0},
		{near(), 0, steps(step(0, 1), step(0, 1), step(0, 1), step(1, 1)), 1, 2},
		{near(), 0, steps(step(1, 1), step(0, 1), step(0, 1), step(1, 1)), 1, 1},
		{near(), 0, steps(step(0, 1), step(1, 1), step(0, 1), step(1, 1)), 1, 0},
		{late(), 0, steps(step(0, 1), step(0, 1), step(0, 1), step(1, 1)), 0, 2}, // home is wet when it leaves
		{late(), 6, steps(step(0, 1), step(1, 1)), 1, 0},
		{late(), 5, steps(step(0, 1), step(1, 1)), 0, 0}, // and when it comes
		{far(41), 0, steps(step(0, 20), step(0, 1), step(1, 20)), 1, 1},
	} {
		if set, worked, e := ford.Fixed(x.s, x.minute, x.steps); set != x.set || worked != x.worked || e != api.OK {
			t.Error(i, set, worked, e)
		}
	}
}

// P2.7: steps that there are not from where they are taken, and steps that end behind Last.
func TestFixedErrors(t *testing.T) {
	for i, x := range []struct {
		minute int
		steps  []ford.Step
		e      api.Errno
	}{
		{0, steps(step(2, 2)), api.ErrWrong}, // no way from home to the bed
		{0, steps(step(1, 1)), api.ErrWrong}, // nor one in these minutes
		{0, steps(step(1, 3)), api.ErrWrong},
		{0, steps(step(0, 2)), api.ErrWrong},
		{0, steps(step(0, 0)), api.ErrWrong},
		{0, steps(ford.Step{}), api.ErrWrong},
		{0, steps(step(0, -1)), api.ErrWrong},
		{0, steps(step(1, -2)), api.ErrWrong},
		{0, steps(step(3, 1)), api.ErrWrong},
		{0, steps(step(-1, 1)), api.ErrWrong},
		{0, steps(step(1, math.MaxInt)), api.ErrWrong},
		{0, steps(step(0, math.MinInt)), api.ErrWrong},
		{0, steps(step(math.MaxInt, 1)), api.ErrWrong},
		{0, steps(step(math.MinInt, 1)), api.ErrWrong},
		{0, append(there(), step(0, 2)), api.ErrWrong}, // from home, but not from the bed
		{0, append(there(), step(1, 2), step(2, 1)), api.ErrWrong},
		{4, append(there(), step(0, 2), step(1, 2)), api.ErrWrong}, // it is wet before
		{10, steps(step(1, 2)), api.OK},
		{11, steps(step(1, 2)), api.ErrWrong},
		{11, steps(step(0, 1)), api.OK},
		{12, steps(step(0, 1)), api.ErrWrong},
		{5, append(there(), back()...), api.ErrWrong},
		{0, slices.Concat(there(), back(), there(), back()), api.ErrWrong},
		{8, there(), api.OK},
		{9, there(), api.ErrWrong},
		{0, slices.Repeat(steps(step(0, 1)), 12), api.OK},
		{0, slices.Repeat(steps(step(0, 1)), 13), api.ErrWrong},
		{-1, nil, api.ErrLimit},
		{13, nil, api.ErrLimit},
		{13, steps(step(1, 1)), api.ErrLimit},
		{-1, steps(step(9, 9)), api.ErrLimit},
	} {
		set, worked, e := ford.Fixed(three(), x.minute, x.steps)
		if e != x.e || e != api.OK && !zero(set, worked) {
			t.Error(i, set, worked, e)
		}
	}
}

// P2.7: the states to which steps lead in the first truth that is left.
func TestDrive(t *testing.T) {
	order := seen(2)
	order.Looks[0][2], order.Looks[1][2] = 3, 0 // what is seen in truth 1 comes first
	for i, x := range []struct {
		s     ford.Sands
		x     ford.State
		steps []ford.Step
		want  []ford.State
	}{
		{three(), at(0, 0, 3), nil, states(at(0, 0, 3))},
		{three(), at(0, 12, 2), steps(), states(at(0, 12, 2))},
		{three(), at(0, 0, 3), there(), states(at(0, 0, 3), at(1, 2, 3), at(2, 4, 3))},
		{seen(2), at(0, 0, 3), there(), states(at(0, 0, 3), at(1, 2, 3), at(2, 4, 1))},
		{seen(1), at(0, 0, 3), there(), states(at(0, 0, 3), at(1, 2, 1), at(2, 4, 1))},
		{seen(1), at(0, 0, 2), there(), states(at(0, 0, 2), at(1, 2, 2), at(2, 4, 2))},
		{order, at(0, 0, 3), there(), states(at(0, 0, 3), at(1, 2, 3), at(2, 4, 1))},
		{seen(0), at(0, 0, 3), there(), states(at(0, 0, 3), at(1, 2, 3), at(2, 4, 3))}, // nobody looks before the first step
		{seen(0), at(0, 0, 3), steps(step(0, 1)), states(at(0, 0, 3), at(0, 1, 1))},
		{seen(2), at(1, 2, 3), slices.Concat(steps(step(2, 2)), work(3), back()), states(
			at(1, 2, 3), at(2, 4, 1), at(2, 5, 1), at(2, 6, 1), at(2, 7, 1), at(1, 9, 1), at(0, 11, 1))},
		{telling(widest(), 0), at(3, 0, 14), steps(step(0, 16)), states(at(3, 0, 14), at(0, 16, 2))},
		{telling(widest(), 0), at(3, 0, 12), steps(step(0, 16)), states(at(3, 0, 12), at(0, 16, 4))},
		{widest(), at(3, 0, 14), steps(step(1, 17), step(3, 17)), states(at(3, 0, 14), at(1, 17, 2), at(3, 34, 2))},
		{widest(), at(3, 0, 12), steps(step(1, 17), step(3, 17)), states(at(3, 0, 12), at(1, 17, 12), at(3, 34, 4))},
		{three(), at(2, 6, 3), nil, nil}, // not safe
		{three(), at(1, 8, 3), steps(step(0, 2)), nil},
		{three(), at(0, 0, 3), append(there(), step(2, 1), step(2, 1)), nil}, // wet in truth 1
		{three(), at(0, 0, 3), append(there(), step(0, 2)), nil},
		{seen(1), at(0, 3, 3), there(), states(at(0, 3, 3), at(1, 5, 1), at(2, 7, 1))}, // what is seen on the way makes the bed safe
		{seen(2), at(0, 3, 3), there(), nil},
		{seen(1), at(0, 3, 2), there(), nil},
		{seen(1), at(0, 5, 3), there(), nil}, // the channel is safe in truth 0, but not in the other one
		{three(), at(0, 11, 3), steps(step(0, 1), step(0, 1)), nil},
		{three(), at(0, 11, 3), steps(step(0, math.MaxInt)), nil},
		{three(), at(0, 0, 3), steps(step(-1, 1)), nil},
		{three(), at(0, 0, 3), append(there(), step(math.MinInt, math.MinInt)), nil},
	} {
		want := api.OK
		if x.want == nil {
			want = api.ErrWrong
		}
		if got, e := ford.Drive(x.s, x.x, x.steps); !slices.Equal(got, x.want) || e != want {
			t.Error(i, got, e)
		}
	}
}

// anyWay returns steps from a place; most of them there are, and most end in time.
func (o slow) anyWay(r *rand.Rand, place int) []ford.Step {
	var out []ford.Step
	for range r.Intn(o.Last + 1) {
		t := step(r.Intn(o.Places), 1+r.Intn(3))
		for range 20 {
			if o.there(place, t) {
				break
			}
			t = step(r.Intn(o.Places), 1+r.Intn(3))
		}
		out = append(out, t)
		place = t.To
	}
	return out
}

// fixed asks truth by truth.
func (o slow) fixed(minute int, way []ford.Step) (set, worked int, e api.Errno) {
	safe := func(truth int) bool {
		place, m := o.Home, minute
		is := o.isDry(place, m, truth)
		for _, t := range way {
			place, m = t.To, m+t.Minutes
			is = is && o.isDry(place, m, truth)
		}
		return is && place == o.Home
	}
	place, m := o.Home, minute
	for _, t := range way {
		if m += t.Minutes; !o.there(place, t) || m > o.Last {
			return 0, 0, api.ErrWrong
		}
		worked += o.works(place, t)
		place = t.To
	}
	return o.setOf(safe), worked, api.OK
}

// drive follows the first truth that is left.
func (o slow) drive(x ford.State, way []ford.Step) ([]ford.State, api.Errno) {
	if !o.isSafe(x) {
		return nil, api.ErrWrong
	}
	first := 0
	for !has(x.Left, first) {
		first++
	}
	out := states(x)
	for _, t := range way {
		if !o.isAllowed(x, t) {
			return nil, api.ErrWrong
		}
		left := o.setOf(func(i int) bool { return has(x.Left, i) && o.Looks[i][t.To] == o.Looks[first][t.To] })
		x = at(t.To, x.Minute+t.Minutes, left)
		out = append(out, x)
	}
	return out, api.OK
}

// P2.7: fixed ways and drives over many sands.
func TestWaysMany(t *testing.T) {
	var safe, driven int
	forMany(t, 400, func(r *rand.Rand, s ford.Sands) {
		o := slow{s}
		for range 30 {
			minute := r.Intn(s.Last + 1)
			way := o.anyWay(r, s.Home)
			set, worked, e := ford.Fixed(s, minute, way)
			wantSet, wantWorked, f := o.fixed(minute, way)
			if set != wantSet || worked != wantWorked || e != f {
				t.Error(s, minute, way, set, worked, e, wantSet, wantWorked, f)
			}
			x := o.states()[r.Intn(len(o.states()))]
			way = o.anyWay(r, x.Place)
			met, e := ford.Drive(s, x, way)
			want, f := o.drive(x, way)
			if !slices.Equal(met, want) || e != f {
				t.Error(s, x, way, met, e, want, f)
			}
			if set > 0 && len(way) > 2 {
				safe++
			}
			if len(met) > 2 {
				driven++
			}
		}
	})
	if safe < 100 || driven < 100 {
		t.Error("too few ways that are safe to show anything", safe, driven)
	}
}
