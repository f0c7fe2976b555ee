package ford_test

import (
	"math"
	"slices"
	"testing"

	"laurel/api"
	"laurel/ford"
)

// fault spoils the sands of the examples, so that they have an error.
type fault struct {
	name  string
	e     api.Errno
	spoil func(s *ford.Sands)
}

func faults() []fault {
	return slices.Concat(manyFaults(), limitFaults(), missingFaults(), againFaults(), spanFaults())
}

func manyFaults() []fault {
	return []fault{
		{"no places", api.ErrMany, func(s *ford.Sands) { s.Places = 0 }},
		{"less than no places", api.ErrMany, func(s *ford.Sands) { s.Places = -1 }},
		{"least places", api.ErrMany, func(s *ford.Sands) { s.Places = math.MinInt }},
		{"a place without lists", api.ErrMany, func(s *ford.Sands) { s.Places = 4 }},
		{"lists without a place", api.ErrMany, func(s *ford.Sands) { s.Places = 2 }},
		{"most places", api.ErrMany, func(s *ford.Sands) { s.Places = math.MaxInt }},
		{"6 places", api.ErrMany, func(s *ford.Sands) {
			s.Places = 6
			for i := range s.Truths {
				s.Looks[i] = make([]int, 6)
				s.Truths[i].Dry = make([][]api.Span, 6)
			}
		}},
		{"nil truths", api.ErrMany, func(s *ford.Sands) { s.Truths, s.Looks = nil, nil }},
		{"no truths", api.ErrMany, func(s *ford.Sands) { s.Truths, s.Looks = []ford.Truth{}, [][]int{} }},
		{"5 truths", api.ErrMany, func(s *ford.Sands) {
			s.Truths = slices.Repeat(s.Truths[:1], 5)
			s.Looks = slices.Repeat(s.Looks[:1], 5)
		}},
		{"11 ways", api.ErrMany, func(s *ford.Sands) { s.Ways = slices.Repeat(s.Ways[:1], 11) }},
		{"nil looks", api.ErrMany, func(s *ford.Sands) { s.Looks = nil }},
		{"looks of a truth less", api.ErrMany, func(s *ford.Sands) { s.Looks = s.Looks[:1] }},
		{"looks of a truth more", api.ErrMany, func(s *ford.Sands) { s.Looks = append(s.Looks, list(0, 0, 0)) }},
		{"nil looks of a truth", api.ErrMany, func(s *ford.Sands) { s.Looks[0] = nil }},
		{"a look less", api.ErrMany, func(s *ford.Sands) { s.Looks[1] = list(0, 0) }},
		{"a look more", api.ErrMany, func(s *ford.Sands) { s.Looks[1] = list(0, 0, 0, 0) }},
		{"no spans", api.ErrMany, func(s *ford.Sands) { s.Truths[0].Dry = nil }},
		{"spans of a place less", api.ErrMany, func(s *ford.Sands) { s.Truths[1].Dry = s.Truths[1].Dry[:2] }},
		{"spans of a place more", api.ErrMany, func(s *ford.Sands) { s.Truths[1].Dry = append(s.Truths[1].Dry, nil) }},
	}
}

func limitFaults() []fault {
	return []fault{
		{"last 0", api.ErrLimit, func(s *ford.Sands) { s.Last = 0 }},
		{"last 61", api.ErrLimit, func(s *ford.Sands) { s.Last = 61 }},
		{"least last", api.ErrLimit, func(s *ford.Sands) { s.Last = math.MinInt }},
		{"most last", api.ErrLimit, func(s *ford.Sands) { s.Last = math.MaxInt }},
		{"way of no minutes", api.ErrLimit, func(s *ford.Sands) { s.Ways[0][2] = 0 }},
		{"way of 21 minutes", api.ErrLimit, func(s *ford.Sands) { s.Ways[1][2] = 21 }},
		{"way back in time", api.ErrLimit, func(s *ford.Sands) { s.Ways[1][2] = math.MinInt }},
		{"endless way", api.ErrLimit, func(s *ford.Sands) { s.Ways[0][2] = math.MaxInt }},
		{"way between the same, too long", api.ErrLimit, func(s *ford.Sands) { s.Ways[1] = [3]int{1, 1, 21} }},
		{"look -1", api.ErrLimit, func(s *ford.Sands) { s.Looks[0][0] = -1 }},
		{"look 4", api.ErrLimit, func(s *ford.Sands) { s.Looks[1][2] = 4 }},
		{"great look", api.ErrLimit, func(s *ford.Sands) { s.Looks[1][1] = math.MaxInt }},
	}
}

func missingFaults() []fault {
	return []fault{
		{"home -1", api.ErrMissing, func(s *ford.Sands) { s.Home = -1 }},
		{"home 3", api.ErrMissing, func(s *ford.Sands) { s.Home = 3 }},
		{"home far", api.ErrMissing, func(s *ford.Sands) { s.Home = math.MaxInt }},
		{"bed -1", api.ErrMissing, func(s *ford.Sands) { s.Bed = -1 }},
		{"bed 3", api.ErrMissing, func(s *ford.Sands) { s.Bed = 3 }},
		{"bed far", api.ErrMissing, func(s *ford.Sands) { s.Bed = math.MinInt }},
		{"home and bed 3", api.ErrMissing, func(s *ford.Sands) { s.Home, s.Bed = 3, 3 }},
		{"way from -1", api.ErrMissing, func(s *ford.Sands) { s.Ways[0][0] = -1 }},
		{"way from 3", api.ErrMissing, func(s *ford.Sands) { s.Ways[1][0] = 3 }},
		{"way to -1", api.ErrMissing, func(s *ford.Sands) { s.Ways[1][1] = -1 }},
		{"way to 3", api.ErrMissing, func(s *ford.Sands) { s.Ways[0][1] = 3 }},
		{"way from far", api.ErrMissing, func(s *ford.Sands) { s.Ways[0][0] = math.MinInt }},
		{"way to far", api.ErrMissing, func(s *ford.Sands) { s.Ways[0][1] = math.MaxInt }},
		{"way from 3 to 3", api.ErrMissing, func(s *ford.Sands) { s.Ways[0] = [3]int{3, 3, 2} }},
	}
}

func againFaults() []fault {
	return []fault{
		{"home is bed", api.ErrAgain, func(s *ford.Sands) { s.Bed = 0 }},
		{"bed is home", api.ErrAgain, func(s *ford.Sands) { s.Home = 2 }},
		{"way to itself", api.ErrAgain, func(s *ford.Sands) { s.Ways[0] = [3]int{0, 0, 2} }},
		{"same way", api.ErrAgain, func(s *ford.Sands) { s.Ways[1] = s.Ways[0] }},
		{"same way, longer", api.ErrAgain, func(s *ford.Sands) { s.Ways[1] = [3]int{0, 1, 3} }},
		{"same way back", api.ErrAgain, func(s *ford.Sands) { s.Ways[1] = [3]int{1, 0, 2} }},
		{"same way back, later", api.ErrAgain, func(s *ford.Sands) { s.Ways = append(s.Ways, [3]int{0, 2, 2}, [3]int{1, 0, 3}) }},
	}
}

// spanFaults are two errors that are asked for span by span: none of them is named before the other one.
func spanFaults() []fault {
	dry := func(place int, ends ...int) func(s *ford.Sands) {
		return func(s *ford.Sands) { s.Truths[1].Dry[place] = spans(ends...) }
	}
	return []fault{
		{"span from -1", api.ErrLimit, dry(0, -1, 5)},
		{"span to 13", api.ErrLimit, dry(2, 3, 13)},
		{"span behind last", api.ErrLimit, dry(1, 13, 13)},
		{"span before 0", api.ErrLimit, dry(1, -1, -1)},
		{"span back", api.ErrLimit, dry(1, 5, 4)},
		{"span far", api.ErrLimit, dry(1, math.MinInt, math.MaxInt)},
		{"span far back", api.ErrLimit, dry(1, math.MaxInt, math.MinInt)},
		{"second span to 13", api.ErrLimit, dry(0, 0, 1, 3, 13)},
		{"second span back", api.ErrLimit, dry(0, 0, 1, 4, 3)},
		{"second span to 13, no wet minute", api.ErrLimit, dry(0, 0, 3, 4, 13)},
		{"second span back, before the first", api.ErrLimit, dry(0, 5, 6, 4, 3)},
		{"no wet minute", api.ErrOrder, dry(0, 0, 3, 4, 6)},
		{"spans meet", api.ErrOrder, dry(1, 0, 3, 3, 6)},
		{"span in a span", api.ErrOrder, dry(2, 0, 9, 3, 6)},
		{"span before another one", api.ErrOrder, dry(2, 5, 6, 0, 2)},
		{"same span", api.ErrOrder, dry(2, 5, 6, 5, 6)},
		{"third span", api.ErrOrder, dry(2, 0, 1, 5, 6, 7, 8)},
		{"third span before the second", api.ErrOrder, dry(2, 0, 1, 8, 9, 4, 5)},
	}
}

// P2.1: each error of Check, one number beyond each limit.
func TestCheckFaults(t *testing.T) {
	for _, f := range faults() {
		s := three()
		f.spoil(&s)
		if e := ford.Check(s); e != f.e {
			t.Error(f.name, e, f.e)
		}
	}
}

// P2.1, R1: of two errors the one is returned that is named first, wherever they are.
func TestCheckOrder(t *testing.T) {
	groups := [][]fault{manyFaults(), limitFaults(), missingFaults(), againFaults(), spanFaults()}
	for i, group := range groups {
		for _, first := range group {
			for _, later := range slices.Concat(groups[i+1:]...) {
				s := three()
				later.spoil(&s)
				first.spoil(&s)
				if e := ford.Check(s); e != first.e {
					t.Error(first.name, later.name, e)
				}
			}
		}
	}
}

// P2.1: of the spans the first one with an error decides: truth by truth, place by place, span by span.
func TestCheckSpanBySpan(t *testing.T) {
	back, near := spans(5, 4), spans(0, 3, 4, 6)
	for i, x := range []struct {
		a, b  [2]int
		x, y  []api.Span
		error api.Errno
	}{
		{[2]int{0, 2}, [2]int{1, 0}, back, near, api.ErrLimit},
		{[2]int{0, 2}, [2]int{1, 0}, near, back, api.ErrOrder},
		{[2]int{0, 0}, [2]int{1, 0}, near, back, api.ErrOrder},
		{[2]int{1, 1}, [2]int{1, 2}, near, back, api.ErrOrder},
		{[2]int{1, 1}, [2]int{1, 2}, back, near, api.ErrLimit},
		{[2]int{0, 0}, [2]int{0, 0}, nil, spans(0, 3, 4, 6, 9, 8), api.ErrOrder},
		{[2]int{0, 0}, [2]int{0, 0}, nil, spans(0, 3, 9, 8, 4, 6), api.ErrLimit},
		{[2]int{0, 0}, [2]int{0, 0}, nil, spans(5, 6, 3, 4, -1, 2), api.ErrOrder},
	} {
		s := three()
		s.Truths[x.a[0]].Dry[x.a[1]] = x.x
		s.Truths[x.b[0]].Dry[x.b[1]] = x.y
		if e := ford.Check(s); e != x.error {
			t.Error(i, e, x.error)
		}
	}
}

// P2.1: numbers at their limits are allowed, and so are lists without elements.
func TestCheckAllowed(t *testing.T) {
	for i, change := range []func(s *ford.Sands){
		func(s *ford.Sands) {},
		func(s *ford.Sands) { *s = widest() },
		func(s *ford.Sands) { *s = near() },
		func(s *ford.Sands) { *s = first() },
		func(s *ford.Sands) { s.Last = 60 },
		func(s *ford.Sands) {
			*s = near()
			s.Last = 1
			s.Truths[0] = truth(spans(0, 0), spans(1, 1))
		},
		func(s *ford.Sands) { s.Ways = nil },
		func(s *ford.Sands) { s.Ways = [][3]int{} },
		func(s *ford.Sands) { s.Ways[0][2], s.Ways[1][2] = 1, 20 },
		func(s *ford.Sands) { s.Ways = append(s.Ways, [3]int{2, 0, 7}) },
		func(s *ford.Sands) { s.Looks[0], s.Looks[1] = list(0, 3, 0), list(3, 0, 3) },
		func(s *ford.Sands) { s.Home, s.Bed = 2, 0 },
		func(s *ford.Sands) { s.Truths[0].Dry = [][]api.Span{nil, {}, nil} },
		func(s *ford.Sands) { s.Truths[0].Dry[0] = spans(0, 0, 12, 12) },
		func(s *ford.Sands) { s.Truths[0].Dry[0] = spans(0, 3, 5, 6) },
		func(s *ford.Sands) { s.Truths[0].Dry[0] = spans(0, 0, 2, 2, 4, 4, 6, 6, 8, 8, 10, 10, 12, 12) },
		func(s *ford.Sands) { s.Truths[0].Dry[0], s.Truths[0].Dry[1] = spans(5, 6), spans(0, 2) },
	} {
		s := three()
		change(&s)
		if e := ford.Check(s); e != api.OK {
			t.Error(i, e)
		}
	}
}

// P2.1: sands of one place have no place for the bed.
func TestCheckOnePlace(t *testing.T) {
	s := ford.Sands{Places: 1, Last: 5, Looks: [][]int{{0}}, Truths: []ford.Truth{truth(nil)}}
	if e := ford.Check(s); e != api.ErrAgain {
		t.Error(e)
	}
	s.Bed = 1
	if e := ford.Check(s); e != api.ErrMissing {
		t.Error(e)
	}
}

// call is a function, asked with some arguments of its own.
type call struct {
	name string
	ask  func(s ford.Sands) (isZero bool, e api.Errno)
}

// calls returns all functions but Check; their own arguments are a number n for all that they ask, and lists of it.
func calls(n int) []call {
	x, l := at(n, n, n), steps(step(n, n))
	table := ford.Table{{{n}}}
	return []call{
		{"Dry", func(s ford.Sands) (bool, api.Errno) { a, e := ford.Dry(s, n, n); return zero(a), e }},
		{"Seen", func(s ford.Sands) (bool, api.Errno) { a, e := ford.Seen(s, n, n); return zero(a), e }},
		{"Safe", func(s ford.Sands) (bool, api.Errno) { a, e := ford.Safe(s, x); return zero(a), e }},
		{"Steps", func(s ford.Sands) (bool, api.Errno) { a, e := ford.Steps(s, x); return zero(a), e }},
		{"After", func(s ford.Sands) (bool, api.Errno) { a, e := ford.After(s, x, l[0]); return zero(a), e }},
		{"Worth", func(s ford.Sands) (bool, api.Errno) { a, e := ford.Worth(s, x); return zero(a), e }},
		{"Rule", func(s ford.Sands) (bool, api.Errno) { a, e := ford.Rule(s, x); return zero(a), e }},
		{"Made", func(s ford.Sands) (bool, api.Errno) { a, e := ford.Made(s); return zero(a), e }},
		{"Holds", func(s ford.Sands) (bool, api.Errno) { a, e := ford.Holds(s, table); return zero(a), e }},
		{"Closed", func(s ford.Sands) (bool, api.Errno) { a, e := ford.Closed(s, table); return zero(a), e }},
		{"Start", func(s ford.Sands) (bool, api.Errno) { a, e := ford.Start(s, n); return zero(a), e }},
		{"Best", func(s ford.Sands) (bool, api.Errno) { a, b, e := ford.Best(s); return zero(a, b), e }},
		{"Turn", func(s ford.Sands) (bool, api.Errno) { a, e := ford.Turn(s, n); return zero(a), e }},
		{"Drive", func(s ford.Sands) (bool, api.Errno) { a, e := ford.Drive(s, x, l); return zero(a), e }},
		{"Fixed", func(s ford.Sands) (bool, api.Errno) { a, b, e := ford.Fixed(s, n, l); return zero(a, b), e }},
		{"Told", func(s ford.Sands) (bool, api.Errno) { a, e := ford.Told(s, n); return zero(a), e }},
		{"Spy", func(s ford.Sands) (bool, api.Errno) { a, b, e := ford.Spy(s, n); return zero(a, b), e }},
	}
}

// P2.1, R1, R2: all functions return the errors of Check first, and zero beside them.
func TestCheckFirst(t *testing.T) {
	for _, f := range faults() {
		s := three()
		f.spoil(&s)
		for _, n := range list(0, 1, -1, 99, math.MaxInt, math.MinInt) {
			for _, c := range calls(n) {
				if isZero, e := c.ask(s); e != f.e || !isZero {
					t.Error(f.name, c.name, n, isZero, e)
				}
			}
		}
	}
}
