package ford_test

import (
	"math"
	"math/rand"
	"slices"
	"testing"

	"laurel/api"
	"laurel/ford"
)

// P2.2: where it is dry in example 1, at the ends of its spans and one beyond.
func TestDry(t *testing.T) {
	for i, x := range []struct {
		s                  ford.Sands
		place, minute, set int
	}{
		{three(), 1, 7, 1}, {three(), 1, 6, 3}, {three(), 1, 9, 1}, {three(), 1, 10, 0},
		{three(), 2, 5, 3}, {three(), 2, 6, 1}, {three(), 2, 8, 0},
		{three(), 0, 0, 3}, {three(), 0, 12, 3},
		{first(), 1, 6, 1}, {first(), 1, 10, 0},
		{near(), 0, 0, 0}, {near(), 0, 1, 1}, {near(), 0, 3, 1}, {near(), 0, 4, 0},
		{fork(), 1, 3, 1}, {fork(), 2, 3, 2},
		{widest(), 4, 60, 15}, {widest(), 0, 0, 15},
	} {
		if set, e := ford.Dry(x.s, x.place, x.minute); set != x.set || e != api.OK {
			t.Error(i, set, e)
		}
	}
	s := three()
	s.Truths[1].Dry[0] = spans(2, 2, 4, 5)
	for minute, want := range list(1, 1, 3, 1, 3, 3, 1) {
		if set, e := ford.Dry(s, 0, minute); set != want || e != api.OK {
			t.Error(minute, set, e)
		}
	}
}

// P2.2: the parts that are seen are in the order of what is seen, not of the truths.
func TestSeen(t *testing.T) {
	s := widest()
	s.Looks = [][]int{{3, 0, 1, 2, 0}, {2, 0, 0, 2, 1}, {1, 0, 1, 0, 2}, {0, 0, 0, 2, 1}}
	for i, x := range []struct {
		s           ford.Sands
		place, left int
		want        []int
	}{
		{three(), 2, 3, list(3)},
		{three(), 0, 1, list(1)},
		{three(), 0, 2, list(2)},
		{seen(2), 2, 3, list(1, 2)},
		{seen(2), 2, 2, list(2)},
		{seen(2), 2, 1, list(1)},
		{seen(2), 1, 3, list(3)},
		{s, 0, 15, list(8, 4, 2, 1)},
		{s, 0, 5, list(4, 1)},
		{s, 1, 15, list(15)},
		{s, 1, 9, list(9)},
		{s, 2, 15, list(10, 5)},
		{s, 2, 13, list(8, 5)},
		{s, 2, 5, list(5)},
		{s, 3, 15, list(4, 11)},
		{s, 3, 7, list(4, 3)},
		{s, 3, 8, list(8)},
		{s, 4, 15, list(1, 10, 4)},
		{s, 4, 14, list(10, 4)},
	} {
		if got, e := ford.Seen(x.s, x.place, x.left); !slices.Equal(got, x.want) || e != api.OK {
			t.Error(i, got, e)
		}
	}
}

// P2.2: the errors of Dry and of Seen: a place that is missing comes before a number that is not allowed.
func TestWhereErrors(t *testing.T) {
	for i, x := range []struct {
		place, n int
		e        api.Errno
	}{
		{-1, 3, api.ErrMissing}, {3, 3, api.ErrMissing}, {math.MaxInt, 3, api.ErrMissing}, {math.MinInt, 3, api.ErrMissing},
		{3, -1, api.ErrMissing}, {-1, 99, api.ErrMissing}, {3, math.MaxInt, api.ErrMissing},
		{0, -1, api.ErrLimit}, {2, 13, api.ErrLimit}, {2, math.MaxInt, api.ErrLimit}, {0, math.MinInt, api.ErrLimit},
	} {
		set, e := ford.Dry(three(), x.place, x.n)
		parts, f := ford.Seen(three(), x.place, x.n)
		if !zero(set, parts) || e != x.e || f != x.e {
			t.Error(i, set, parts, e, f)
		}
	}
	for i, x := range []struct {
		s    ford.Sands
		left int
		e    api.Errno
	}{
		{three(), 0, api.ErrLimit}, {three(), 1, api.OK}, {three(), 3, api.OK}, {three(), 4, api.ErrLimit},
		{first(), 1, api.OK}, {first(), 2, api.ErrLimit}, {widest(), 15, api.OK}, {widest(), 16, api.ErrLimit},
	} {
		if parts, e := ford.Seen(x.s, 1, x.left); e != x.e || e != api.OK && !zero(parts) {
			t.Error(i, parts, e)
		}
	}
}

// P2.2, P2.3: states that are safe or not, and the steps that are allowed from them.
func TestSafeAndSteps(t *testing.T) {
	for i, x := range []struct {
		s    ford.Sands
		x    ford.State
		safe bool
		want []ford.Step
	}{
		{three(), at(1, 2, 3), true, steps(step(0, 2), step(1, 1), step(2, 2))}, // example 5
		{three(), at(0, 0, 3), true, steps(step(0, 1), step(1, 2))},
		{three(), at(1, 6, 3), true, steps(step(0, 2))},
		{three(), at(1, 6, 1), true, steps(step(0, 2), step(1, 1))},
		{three(), at(1, 5, 1), true, steps(step(0, 2), step(1, 1), step(2, 2))},
		{three(), at(1, 5, 3), true, steps(step(0, 2), step(1, 1))},
		{three(), at(1, 7, 1), true, steps(step(0, 2), step(1, 1))},
		{three(), at(1, 7, 2), false, nil},
		{three(), at(1, 7, 3), false, nil},
		{three(), at(2, 7, 1), true, steps(step(1, 2))},
		{three(), at(2, 6, 3), false, nil},
		{three(), at(0, 11, 3), true, steps(step(0, 1))},
		{three(), at(0, 12, 3), true, nil},
		{seen(2), at(1, 4, 3), true, steps(step(0, 2), step(1, 1))}, // what is seen at 2 comes too late
		{near(), at(1, 0, 1), true, steps(step(0, 1), step(1, 1))},
		{near(), at(1, 3, 1), true, steps(step(1, 1))},
		{near(), at(0, 0, 1), false, nil},
		{near(), at(0, 3, 1), true, steps(step(1, 1))},
		{near(), at(0, 4, 1), false, nil},
		{widest(), at(0, 0, 15), true, steps(step(0, 1), step(1, 14), step(2, 15), step(3, 16), step(4, 17))},
		{widest(), at(3, 40, 6), true, steps(step(0, 16), step(1, 17), step(2, 18), step(3, 1), step(4, 20))},
		{widest(), at(3, 43, 6), true, steps(step(0, 16), step(1, 17), step(3, 1))},
		{widest(), at(3, 59, 1), true, steps(step(3, 1))},
		{widest(), at(3, 60, 1), true, nil},
	} {
		safe, e := ford.Safe(x.s, x.x)
		got, f := ford.Steps(x.s, x.x)
		if safe != x.safe || !slices.Equal(got, x.want) || e != api.OK || f != api.OK {
			t.Error(i, safe, got, e, f)
		}
	}
}

// P2.3: the states that steps come to, in the order of what is seen there; steps that are not allowed.
func TestAfter(t *testing.T) {
	wide := widest()
	wide.Looks = [][]int{{3, 0, 1, 2, 0}, {2, 0, 0, 2, 1}, {1, 0, 1, 0, 2}, {0, 0, 0, 2, 1}}
	for i, x := range []struct {
		s    ford.Sands
		x    ford.State
		t    ford.Step
		want []ford.State
	}{
		{three(), at(1, 2, 3), step(2, 2), states(at(2, 4, 3))},
		{three(), at(1, 2, 3), step(1, 1), states(at(1, 3, 3))},
		{three(), at(2, 4, 1), step(1, 2), states(at(1, 6, 1))},
		{seen(2), at(1, 2, 3), step(2, 2), states(at(2, 4, 1), at(2, 4, 2))},
		{seen(2), at(1, 2, 2), step(2, 2), states(at(2, 4, 2))},
		{seen(0), at(0, 2, 3), step(0, 1), states(at(0, 3, 1), at(0, 3, 2))},
		{seen(0), at(0, 2, 3), step(1, 2), states(at(1, 4, 3))},
		{seen(1), at(0, 2, 3), step(1, 2), states(at(1, 4, 1), at(1, 4, 2))},
		{wide, at(3, 1, 15), step(0, 16), states(at(0, 17, 8), at(0, 17, 4), at(0, 17, 2), at(0, 17, 1))},
		{wide, at(3, 59, 15), step(3, 1), states(at(3, 60, 4), at(3, 60, 11))},
		{wide, at(3, 40, 13), step(4, 20), states(at(4, 60, 1), at(4, 60, 8), at(4, 60, 4))},
		{wide, at(3, 41, 13), step(4, 20), nil}, // behind Last
		{three(), at(1, 2, 3), step(2, 1), nil}, // a way in other minutes
		{three(), at(1, 2, 3), step(2, 3), nil},
		{three(), at(1, 2, 3), step(1, 2), nil}, // to wait for more than a minute
		{three(), at(1, 2, 3), step(1, 0), nil}, // or for none
		{three(), at(1, 2, 3), step(0, -2), nil},
		{three(), at(0, 2, 3), step(2, 2), nil}, // no way
		{three(), at(0, 2, 3), step(3, 2), nil}, // no place
		{three(), at(0, 2, 3), step(-1, 1), nil},
		{three(), at(0, 2, 3), step(math.MaxInt, math.MaxInt), nil},
		{three(), at(0, 2, 3), step(1, math.MaxInt), nil},
		{three(), at(0, 2, 3), step(0, math.MinInt), nil},
		{three(), at(0, 2, 3), ford.Step{}, nil},
		{three(), at(1, 4, 3), step(2, 2), nil}, // wet in truth 1
		{seen(2), at(1, 4, 3), step(2, 2), nil}, // what is seen comes too late
		{three(), at(1, 7, 2), step(0, 2), nil}, // from a state that is not safe
		{three(), at(1, 10, 1), step(0, 2), nil},
		{three(), at(0, 12, 3), step(0, 1), nil},
	} {
		want := api.OK
		if x.want == nil {
			want = api.ErrWrong
		}
		if got, e := ford.After(x.s, x.x, x.t); !slices.Equal(got, x.want) || e != want {
			t.Error(i, got, e)
		}
	}
}

// stateFaults are states of the sands of the examples with an error; one that is missing comes first.
func stateFaults() map[ford.State]api.Errno {
	return map[ford.State]api.Errno{
		at(-1, 1, 1):  api.ErrMissing,
		at(3, 1, 1):   api.ErrMissing,
		at(3, 13, 1):  api.ErrMissing,
		at(3, 1, 0):   api.ErrMissing,
		at(-1, -1, 4): api.ErrMissing,
		at(math.MaxInt, math.MaxInt, math.MaxInt): api.ErrMissing,
		at(math.MinInt, 1, 1):                     api.ErrMissing,
		at(0, -1, 1):                              api.ErrLimit,
		at(0, 13, 1):                              api.ErrLimit,
		at(0, math.MaxInt, 1):                     api.ErrLimit,
		at(0, math.MinInt, 1):                     api.ErrLimit,
		at(0, 1, 0):                               api.ErrLimit,
		at(0, 1, -1):                              api.ErrLimit,
		at(0, 1, 4):                               api.ErrLimit,
		at(2, 9, 4):                               api.ErrLimit,
		at(0, 1, math.MaxInt):                     api.ErrLimit,
		at(0, 1, math.MinInt):                     api.ErrLimit,
		at(2, 13, 0):                              api.ErrLimit,
	}
}

// P2.2, P2.3, P2.4, P2.7: the errors of a state come before all else.
func TestStateErrors(t *testing.T) {
	for x, want := range stateFaults() {
		safe, e1 := ford.Safe(three(), x)
		all, e2 := ford.Steps(three(), x)
		after, e3 := ford.After(three(), x, step(9, 9))
		worth, e4 := ford.Worth(three(), x)
		rule, e5 := ford.Rule(three(), x)
		met, e6 := ford.Drive(three(), x, steps(step(9, 9)))
		errors := []api.Errno{e1, e2, e3, e4, e5, e6}
		if !zero(safe, all, after, worth, rule, met) || slices.ContainsFunc(errors, func(e api.Errno) bool { return e != want }) {
			t.Error(x, errors, safe, all, after, worth, rule, met)
		}
	}
}

// P2.2, P2.3: the last minute and all truths are allowed.
func TestStateLimits(t *testing.T) {
	for _, x := range states(at(0, 0, 1), at(4, 60, 15), at(0, 60, 1), at(4, 0, 15)) {
		if safe, e := ford.Safe(widest(), x); !safe || e != api.OK {
			t.Error(x, safe, e)
		}
	}
	for _, x := range states(at(4, 60, 16), at(4, 61, 15)) {
		if safe, e := ford.Safe(widest(), x); safe || e != api.ErrLimit {
			t.Error(x, safe, e)
		}
	}
}

// P2.2, P2.3: what is where, and the steps, of many sands, state by state.
func TestStepsMany(t *testing.T) {
	forMany(t, 150, func(r *rand.Rand, s ford.Sands) {
		o := slow{s}
		for _, x := range o.states() {
			set, e1 := ford.Dry(s, x.Place, x.Minute)
			parts, e2 := ford.Seen(s, x.Place, x.Left)
			safe, e3 := ford.Safe(s, x)
			all, e4 := ford.Steps(s, x)
			if e1 != api.OK || e2 != api.OK || e3 != api.OK || e4 != api.OK {
				t.Error(s, x, e1, e2, e3, e4)
			}
			want := o.setOf(func(i int) bool { return o.isDry(x.Place, x.Minute, i) })
			if set != want || !slices.Equal(parts, o.seen(x.Place, x.Left)) {
				t.Error(s, x, set, want, parts)
			}
			if safe != o.isSafe(x) || !slices.Equal(all, o.steps(x)) {
				t.Error(s, x, safe, all, o.steps(x))
			}
			checkAfter(t, o, x, step(r.Intn(s.Places), 1+r.Intn(3)))
		}
	})
}

func checkAfter(t *testing.T, o slow, x ford.State, y ford.Step) {
	t.Helper()
	after, e := ford.After(o.Sands, x, y)
	if !slices.Contains(o.steps(x), y) {
		if e != api.ErrWrong || !zero(after) {
			t.Error(o, x, y, after, e)
		}
		return
	}
	if e != api.OK || !slices.Equal(after, o.after(x, y)) {
		t.Error(o, x, y, after, e)
	}
}
