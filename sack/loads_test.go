package sack_test

import (
	"math"
	"math/rand"
	"slices"
	"testing"

	"laurel/api"
	"laurel/sack"
)

// fault spoils a load, so that it has an error.
type fault struct {
	name  string
	e     api.Errno
	spoil func(l *sack.Load)
}

// groups returns faults by their errors, in the order in which Check returns these.
func groups() [][]fault {
	return [][]fault{manyFaults(), limitFaults(), missingFaults(), againFaults()}
}

func faults() []fault { return slices.Concat(groups()...) }

func manyFaults() []fault {
	return []fault{
		{"10 sacks", api.ErrMany, func(l *sack.Load) { l.Sacks = slices.Repeat(l.Sacks[:1], 10) }},
		{"10 sacks of nothing", api.ErrMany, func(l *sack.Load) { l.Sacks = make([]sack.Sack, 10) }},
		{"9 apart", api.ErrMany, func(l *sack.Load) { l.Apart = slices.Repeat(l.Apart, 9) }},
		{"9 with", api.ErrMany, func(l *sack.Load) { l.With = make([][2]int, 9) }},
		{"many of all", api.ErrMany, func(l *sack.Load) {
			l.Sacks, l.Apart, l.With = make([]sack.Sack, 99), make([][2]int, 99), make([][2]int, 99)
		}},
	}
}

func limitFaults() []fault {
	return []fault{
		{"bears 0", api.ErrLimit, func(l *sack.Load) { l.Bears = 0 }},
		{"bears 101", api.ErrLimit, func(l *sack.Load) { l.Bears = 101 }},
		{"bears most", api.ErrLimit, func(l *sack.Load) { l.Bears = math.MaxInt }},
		{"bears least", api.ErrLimit, func(l *sack.Load) { l.Bears = math.MinInt }},
		{"shrink -1", api.ErrLimit, func(l *sack.Load) { l.Shrink = -1 }},
		{"shrink 91", api.ErrLimit, func(l *sack.Load) { l.Shrink = 91 }},
		{"shrink most", api.ErrLimit, func(l *sack.Load) { l.Shrink = math.MaxInt }},
		{"shrink least", api.ErrLimit, func(l *sack.Load) { l.Shrink = math.MinInt }},
		{"measures 0", api.ErrLimit, func(l *sack.Load) { l.Sacks[0].Measures = 0 }},
		{"measures 101", api.ErrLimit, func(l *sack.Load) { l.Sacks[4].Measures = 101 }},
		{"measures most", api.ErrLimit, func(l *sack.Load) { l.Sacks[4].Measures = math.MaxInt }},
		{"measures least", api.ErrLimit, func(l *sack.Load) { l.Sacks[2].Measures = math.MinInt }},
		{"owner -1", api.ErrLimit, func(l *sack.Load) { l.Sacks[0].Owner = -1 }},
		{"owner 6", api.ErrLimit, func(l *sack.Load) { l.Sacks[4].Owner = 6 }},
		{"owner most", api.ErrLimit, func(l *sack.Load) { l.Sacks[3].Owner = math.MaxInt }},
		{"owner least", api.ErrLimit, func(l *sack.Load) { l.Sacks[1].Owner = math.MinInt }},
	}
}

// bothLists returns a fault for each of the lists, the last pair of which is another one.
func bothLists(name string, e api.Errno, pair [2]int) []fault {
	return []fault{
		{"apart " + name, e, func(l *sack.Load) { l.Apart = append(slices.Clone(l.Apart), pair) }},
		{"with " + name, e, func(l *sack.Load) { l.With = append(slices.Clone(l.With), pair) }},
		{"first apart " + name, e, func(l *sack.Load) { l.Apart = pairs(pair, [2]int{0, 1}) }},
		{"first with " + name, e, func(l *sack.Load) { l.With = pairs(pair, [2]int{0, 1}) }},
	}
}

func missingFaults() []fault {
	return slices.Concat(
		bothLists("of 5", api.ErrMissing, [2]int{5, 0}), bothLists("to 5", api.ErrMissing, [2]int{0, 5}),
		bothLists("of -1", api.ErrMissing, [2]int{-1, 1}), bothLists("to -1", api.ErrMissing, [2]int{1, -1}),
		bothLists("5 twice", api.ErrMissing, [2]int{5, 5}), bothLists("far", api.ErrMissing, [2]int{math.MinInt, math.MaxInt}),
	)
}

func againFaults() []fault {
	return slices.Concat(bothLists("0 twice", api.ErrAgain, [2]int{}), bothLists("4 twice", api.ErrAgain, [2]int{4, 4}))
}

// P6.2: each error of Check, one number beyond each limit.
func TestCheckFaults(t *testing.T) {
	for _, x := range faults() {
		l := paired()
		x.spoil(&l)
		if e := sack.Check(l); e != x.e {
			t.Error(x.name, e, x.e)
		}
	}
}

// P6.2, R1: of two errors the one is returned that is named first, wherever they are.
func TestCheckOrder(t *testing.T) {
	all := groups()
	for i, group := range all {
		for _, x := range group {
			for _, later := range slices.Concat(all[i+1:]...) {
				l := paired()
				later.spoil(&l)
				x.spoil(&l)
				if e := sack.Check(l); e != x.e {
					t.Error(x.name, later.name, e)
				}
			}
		}
	}
	l := paired()
	l.Apart, l.With = pairs([2]int{1, 1}), pairs([2]int{0, 9})
	if e := sack.Check(l); e != api.ErrMissing { // asked of both lists, before the next error is asked for
		t.Error(e)
	}
}

// P6.2: what is just allowed.
func TestCheckAllowed(t *testing.T) {
	for i, change := range []func(l *sack.Load){
		func(l *sack.Load) {},
		func(l *sack.Load) { l.Bears = 1 },
		func(l *sack.Load) { l.Bears = 100 },
		func(l *sack.Load) { l.Shrink = 0 },
		func(l *sack.Load) { l.Shrink = 90 },
		func(l *sack.Load) { l.Sacks[0] = of(1, 5) },
		func(l *sack.Load) { l.Sacks[4] = of(100, 0) },
		func(l *sack.Load) { l.Sacks = slices.Repeat(l.Sacks[:1], 9); l.Apart = pairs([2]int{8, 0}) },
		func(l *sack.Load) { l.Sacks, l.Apart, l.With = nil, nil, nil },
		func(l *sack.Load) { l.Sacks, l.Apart, l.With = []sack.Sack{}, pairs(), pairs() },
		func(l *sack.Load) { l.Apart = slices.Repeat(l.Apart, 8); l.With = slices.Repeat(l.With, 8) },
		func(l *sack.Load) { l.Apart = pairs([2]int{1, 2}, [2]int{2, 1}, [2]int{1, 2}) },
		func(l *sack.Load) { l.Apart = l.With },
		func(l *sack.Load) { l.Apart = pairs([2]int{4, 0}); l.With = pairs([2]int{4, 0}) },
		func(l *sack.Load) { *l = widest() },
	} {
		l := paired()
		change(&l)
		if e := sack.Check(l); e != api.OK {
			t.Error(i, e)
		}
	}
}

// P6.2, R1, R2: all functions of a load return the errors of Check first, and zero beside them.
func TestCheckFirst(t *testing.T) {
	for _, x := range faults() {
		l := paired()
		x.spoil(&l)
		for _, n := range append(farNumbers(), 0, 1, -1, 99) {
			for _, c := range calls(n) {
				if isZero, e := c.ask(l); e != x.e || !isZero {
					t.Error(x.name, c.name, n, isZero, e)
				}
			}
		}
		if is, e := sack.Loaded(l, nil); is || e != x.e {
			t.Error(x.name, is, e)
		}
		if n, e := sack.Proves(l, sack.Prices{}); n != 0 || e != x.e {
			t.Error(x.name, n, e)
		}
		if owed, e := sack.Owed(l, nil, 0); !zero(owed) || e != x.e {
			t.Error(x.name, owed, e)
		}
	}
}

// P6.2: what sacks weigh when they have shrunk, rounded down.
func TestWeights(t *testing.T) {
	for i, x := range []struct {
		shrink         int
		measures, want []int
	}{
		{10, list(30, 20, 25, 20, 10), list(27, 18, 23, 18, 9)}, // example 2
		{0, list(1, 99, 100), list(1, 99, 100)},
		{90, list(1, 2, 9, 10, 11, 100), list(1, 1, 1, 1, 2, 10)},
		{50, list(1, 2, 3, 99), list(1, 1, 2, 50)},
		{1, list(99, 100, 50), list(99, 99, 50)},
		{33, list(3, 4, 100), list(3, 3, 67)},
		{10, nil, nil},
	} {
		l := dry(50, x.measures...)
		l.Shrink = x.shrink
		if got, e := sack.Weights(l); !slices.Equal(got, x.want) || e != api.OK {
			t.Error(i, got, e)
		}
	}
}

// P6.2: bundles, and those that cannot go.
func TestBundles(t *testing.T) {
	nine := dry(100, 1, 1, 1, 1, 1, 1, 1, 1, 1)
	nine.With = pairs([2]int{7, 8}, [2]int{6, 7}, [2]int{5, 6}, [2]int{4, 5}, [2]int{3, 4}, [2]int{2, 3}, [2]int{1, 2}, [2]int{0, 1})
	cross := dry(100, 1, 1, 1, 1, 1, 1)
	cross.With = pairs([2]int{5, 1}, [2]int{4, 0}, [2]int{3, 1}, [2]int{2, 4})
	for i, x := range []struct {
		l       sack.Load
		bundles [][]int
		stuck   []int
	}{
		{five(nil, nil), [][]int{{0}, {1}, {2}, {3}, {4}}, nil},
		{paired(), [][]int{{0}, {1, 3}, {2}, {4}}, nil}, // example 3
		{five(nil, pairs([2]int{4, 3}, [2]int{3, 1})), [][]int{{0}, {1, 3, 4}, {2}}, nil},
		{five(nil, pairs([2]int{4, 3}, [2]int{3, 4}, [2]int{3, 4})), [][]int{{0}, {1}, {2}, {3, 4}}, nil},
		{five(nil, pairs([2]int{2, 0})), [][]int{{0, 2}, {1}, {3}, {4}}, nil}, // they weigh 50, just what a cart bears
		{bearing(five(nil, pairs([2]int{2, 0})), 49), [][]int{{0, 2}, {1}, {3}, {4}}, list(0)},
		{bearing(five(nil, pairs([2]int{2, 0})), 20), [][]int{{0, 2}, {1}, {3}, {4}}, list(0)},
		{bearing(five(nil, nil), 20), [][]int{{0}, {1}, {2}, {3}, {4}}, list(0, 2)},
		{five(pairs([2]int{3, 1}), pairs([2]int{1, 3})), [][]int{{0}, {1, 3}, {2}, {4}}, list(1)},
		{five(pairs([2]int{3, 1}), pairs([2]int{4, 1}, [2]int{4, 3})), [][]int{{0}, {1, 3, 4}, {2}}, list(1)}, // apart, but for a third one
		{five(pairs([2]int{4, 0}), pairs([2]int{4, 1})), [][]int{{0}, {1, 4}, {2}, {3}}, nil},
		{nine, [][]int{{0, 1, 2, 3, 4, 5, 6, 7, 8}}, nil},
		{bearing(nine, 8), [][]int{{0, 1, 2, 3, 4, 5, 6, 7, 8}}, list(0)},
		{cross, [][]int{{0, 2, 4}, {1, 3, 5}}, nil},
		{bearing(cross, 2), [][]int{{0, 2, 4}, {1, 3, 5}}, list(0, 1)},
		{dry(20, 21, 20, 100), [][]int{{0}, {1}, {2}}, list(0, 2)},
		{dry(20), nil, nil},
	} {
		bundles, e := sack.Bundles(x.l)
		stuck, g := sack.Stuck(x.l)
		if !sameLists(bundles, x.bundles) || !slices.Equal(stuck, x.stuck) || e != api.OK || g != api.OK {
			t.Error(i, bundles, stuck, e, g)
		}
	}
}

// P6.2: weights and bundles of many loads.
func TestLoadsMany(t *testing.T) {
	var stuck, large int
	forMany(t, 1000, func(_ *rand.Rand, l sack.Load) {
		o := slow{l}
		if got, e := sack.Weights(l); !slices.Equal(got, o.weights()) || e != api.OK {
			t.Error(l, got, e)
		}
		bundles, e := sack.Bundles(l)
		if !sameLists(bundles, o.bundles()) || e != api.OK {
			t.Error(l, bundles, e)
		}
		got, e := sack.Stuck(l)
		if !slices.Equal(got, o.stuck()) || e != api.OK {
			t.Error(l, got, e)
		}
		if len(got) > 0 {
			stuck++
		}
		if slices.ContainsFunc(bundles, func(b []int) bool { return len(b) > 2 }) {
			large++
		}
	})
	if stuck < 50 || large < 50 {
		t.Error("too few bundles of a kind to show anything", stuck, large)
	}
}
