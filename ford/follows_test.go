package ford_test

import (
	"math"
	"math/rand"
	"reflect"
	"slices"
	"testing"

	"laurel/api"
	"laurel/ford"
)

// worths returns those of all states, as they are asked for one by one.
func worths(t *testing.T, s ford.Sands) map[ford.State]int {
	t.Helper()
	out := map[ford.State]int{}
	for _, x := range (slow{s}).states() {
		n, e := ford.Worth(s, x)
		if e != api.OK {
			t.Error(s, x, e)
		}
		out[x] = n
	}
	return out
}

// follow steps by Rule until there is none, in one truth, and returns where the cart is then, and how long it has worked.
func follow(t *testing.T, s ford.Sands, x ford.State, truth int) (end ford.State, worked int) {
	t.Helper()
	for {
		step, e := ford.Rule(s, x)
		if e != api.OK {
			return x, worked
		}
		worked += slow{s}.works(x.Place, step)
		after, e := ford.After(s, x, step)
		i := slices.IndexFunc(after, func(y ford.State) bool { return has(y.Left, truth) })
		if e != api.OK || i < 0 {
			t.Error(s, x, step, after, e)
			return x, worked
		}
		x = after[i]
	}
}

// P2.9, P0.3: a rule brings the cart home in each truth, with as much work as its worth says; and in one of them with no more.
func TestRuleBringsHome(t *testing.T) {
	forMany(t, 100, func(_ *rand.Rand, s ford.Sands) {
		for x, n := range worths(t, s) {
			if n == ford.Lost {
				continue
			}
			least := math.MaxInt
			for i := range s.Truths {
				if !has(x.Left, i) {
					continue
				}
				end, worked := follow(t, s, x, i)
				if end.Place != s.Home || !(slow{s}).isSafe(end) || worked < n {
					t.Error(s, x, i, end, worked, n)
				}
				least = min(least, worked)
			}
			if least != n {
				t.Error(s, x, least, n)
			}
		}
	})
}

// P2.9: a truth less never makes a state worth less.
func TestTruthLess(t *testing.T) {
	forMany(t, 200, func(_ *rand.Rand, s ford.Sands) {
		all := worths(t, s)
		for x, n := range all {
			for left := 1; left < x.Left; left++ {
				if left&^x.Left == 0 && all[at(x.Place, x.Minute, left)] < n {
					t.Error(s, x, left, n)
				}
			}
		}
	})
}

// P2.9: what is told at home, or seen elsewhere, never makes a start worth less; and none is worth more than that which is told.
func TestSeenHelps(t *testing.T) {
	forMany(t, 150, func(_ *rand.Rand, s ford.Sands) {
		for minute := range s.Last + 1 {
			start, e := ford.Start(s, minute)
			told, f := ford.Told(s, minute)
			if start > told || e != api.OK || f != api.OK {
				t.Error(s, minute, start, told, e, f)
			}
			for place := range s.Places {
				other := telling(s, place)
				more, e := ford.Start(other, minute)
				same, f := ford.Told(other, minute)
				if more < start || more > told || same != told || e != api.OK || f != api.OK {
					t.Error(s, minute, place, start, more, same, told, e, f)
				}
			}
		}
	})
}

// P2.9: the worth of a state is that which Made has for it; it is no less in a table that is closed, and no more in one that holds.
func TestTablesBound(t *testing.T) {
	forMany(t, 150, func(r *rand.Rand, s ford.Sands) {
		made, e := ford.Made(s)
		holds, f := ford.Holds(s, made)
		closed, g := ford.Closed(s, made)
		if !holds || !closed || e != api.OK || f != api.OK || g != api.OK {
			t.Fatal(s, made, holds, closed, e, f, g)
		}
		all := worths(t, s)
		for x, n := range all {
			if made[x.Place][x.Minute][x.Left] != n {
				t.Error(s, x, n)
			}
		}
		for range 10 {
			table := copiedTable(made)
			for range 3 {
				x := at(r.Intn(s.Places), r.Intn(s.Last+1), r.Intn(len(made[0][0])))
				table[x.Place][x.Minute][x.Left] = r.Intn(s.Last+2) - 1
			}
			holds, e := ford.Holds(s, table)
			closed, f := ford.Closed(s, table)
			for x, n := range all {
				number := table[x.Place][x.Minute][x.Left]
				safe := slow{s}.isSafe(x)
				if holds && number > n || closed && safe && number < n || e != api.OK || f != api.OK {
					t.Error(s, x, n, number, holds, closed, e, f)
				}
			}
		}
	})
}

// P2.9: a place that is dry longer in each truth never makes a state worth less.
func TestDryLonger(t *testing.T) {
	forMany(t, 200, func(r *rand.Rand, s ford.Sands) {
		longer := copied(s)
		place := r.Intn(s.Places)
		for i := range longer.Truths {
			l := longer.Truths[i].Dry[place]
			if n := len(l); n > 0 && r.Intn(3) > 0 {
				l[n-1].Hi = min(s.Last, l[n-1].Hi+1+r.Intn(3))
				l[0].Lo = max(0, l[0].Lo-1)
			} else {
				longer.Truths[i].Dry[place] = spans(0, s.Last)
			}
		}
		after := worths(t, longer)
		for x, n := range worths(t, s) {
			if after[x] < n {
				t.Error(s, longer, x, n, after[x])
			}
		}
	})
}

// P0.1: no function panics, whatever its arguments are, and all end.
func TestAnyArguments(t *testing.T) {
	some := list(0, 1, -1, 2, 3, 4, 5, 6, 15, 16, 20, 21, 60, 61, math.MaxInt, math.MinInt, math.MaxInt32)
	r := rand.New(rand.NewSource(5))
	pick := func() int { return some[r.Intn(len(some))] }
	for range 3000 {
		s := ford.Sands{Places: pick(), Home: pick(), Bed: pick(), Last: pick()}
		if r.Intn(2) == 0 {
			s = anySands(r, 5, 4, 12)
		}
		for range r.Intn(2) {
			s.Ways = append(s.Ways, [3]int{pick(), pick(), pick()})
		}
		for range r.Intn(2) {
			s.Looks = append(s.Looks, list(pick(), pick()))
		}
		for range r.Intn(2) {
			s.Truths = append(s.Truths, truth(spans(pick(), pick()), spans(pick(), pick())))
		}
		want := ford.Check(s)
		for _, c := range calls(pick()) {
			if isZero, e := c.ask(s); e != api.OK && !isZero || want != api.OK && e != want {
				t.Error(c.name, s, isZero, e)
			}
		}
	}
}

// P0.1: all functions end, and have answers, for sands that are as large as can be.
func TestWidest(t *testing.T) {
	for i, s := range []ford.Sands{widest(), long(), far(60)} {
		for _, c := range calls(1) {
			_, e := c.ask(s)
			want := api.OK
			switch {
			case c.name == "Holds" || c.name == "Closed":
				want = api.ErrMany
			case c.name == "Fixed" && s.Home != 1:
				want = api.ErrWrong
			}
			if e != want {
				t.Error(i, c.name, e)
			}
		}
	}
}

// everything returns all results for sands, so that they can be held against others.
func everything(s ford.Sands, table ford.Table, way []ford.Step) []any {
	out := []any{ford.Check(s)}
	keep := func(results ...any) {
		for _, x := range results {
			if v := reflect.ValueOf(x); v.Kind() == reflect.Slice && v.Len() == 0 {
				x = nil
			}
			out = append(out, x)
		}
	}
	for _, x := range states(at(0, 0, 3), at(1, 2, 3), at(2, 4, 1)) {
		dry, e := ford.Dry(s, x.Place, x.Minute)
		keep(dry, e)
		parts, e := ford.Seen(s, x.Place, x.Left)
		keep(parts, e)
		safe, e := ford.Safe(s, x)
		keep(safe, e)
		all, e := ford.Steps(s, x)
		keep(all, e)
		after, e := ford.After(s, x, step(1, 2))
		keep(after, e)
		n, e := ford.Worth(s, x)
		keep(n, e)
		rule, e := ford.Rule(s, x)
		keep(rule, e)
		met, e := ford.Drive(s, x, way)
		keep(met, e)
		start, e := ford.Start(s, x.Minute)
		keep(start, e)
		told, e := ford.Told(s, x.Minute)
		keep(told, e)
		place, spied, e := ford.Spy(s, x.Minute)
		keep(place, spied, e)
		turn, e := ford.Turn(s, x.Left)
		keep(turn, e)
		set, worked, e := ford.Fixed(s, x.Minute, way)
		keep(set, worked, e)
	}
	made, e := ford.Made(s)
	keep(made, e)
	holds, e := ford.Holds(s, table)
	keep(holds, e)
	closed, e := ford.Closed(s, table)
	keep(closed, e)
	minute, n, e := ford.Best(s)
	keep(minute, n, e)
	return out
}

// R4, R5: arguments come back unchanged, and the same question has the same answer again.
func TestArgumentsUnchanged(t *testing.T) {
	for place := range 3 {
		s := seen(place)
		same := copied(s)
		table, e := ford.Made(s)
		if e != api.OK {
			t.Fatal(e)
		}
		sameTo, way := copiedTable(table), there()
		before := everything(s, table, way)
		if after := everything(s, table, way); !reflect.DeepEqual(before, after) {
			t.Error(before, after)
		}
		if !reflect.DeepEqual(s, same) || !sameTable(table, sameTo) || !slices.Equal(way, there()) {
			t.Error(s, table, way)
		}
	}
}

// R4: a list that has room behind it is not written to.
func TestRoomUnchanged(t *testing.T) {
	room := append(slices.Concat(there(), back()), step(77, 77), step(78, 78))
	same := slices.Clone(room)
	s := seen(2)
	looks := list(0, 0, 1, 55, 66)
	s.Looks[1] = looks[:3]
	ways := append(s.Ways, [3]int{7, 7, 7}, [3]int{8, 8, 8})
	s.Ways = ways[:2]
	everything(s, nil, room[:2])
	everything(s, nil, room[:4])
	if !slices.Equal(room, same) || !slices.Equal(looks, list(0, 0, 1, 55, 66)) || ways[2][0] != 7 || ways[3][0] != 8 {
		t.Error(room, looks, ways)
	}
}

// spoil overwrites a list, and the room behind it.
func spoil[T any](l []T, x T) {
	l = l[:cap(l)]
	for i := range l {
		l[i] = x
	}
}

// R4: results share no memory with arguments, with each other, or with later results.
func TestResultsApart(t *testing.T) {
	s := seen(2)
	want := everything(seen(2), nil, there())
	way := there()
	parts, _ := ford.Seen(s, 2, 3)
	spoil(parts, 77)
	all, _ := ford.Steps(s, at(1, 2, 3))
	spoil(all, step(7, 7))
	after, _ := ford.After(s, at(1, 2, 3), step(2, 2))
	spoil(after, at(7, 7, 7))
	met, _ := ford.Drive(s, at(0, 0, 3), way)
	spoil(met, at(7, 7, 7))
	made, _ := ford.Made(s)
	for place, minutes := range made {
		for minute, sets := range minutes {
			for left, n := range sets {
				if n == 77 {
					t.Error("two lists of a table share memory", place, minute, left)
				}
			}
			spoil(sets, 77)
		}
		spoil(minutes, nil)
	}
	if !reflect.DeepEqual(s, seen(2)) || !slices.Equal(way, there()) || !reflect.DeepEqual(everything(s, nil, there()), want) {
		t.Error(s, way)
	}
}

// R3: nil lists and empty ones are the same.
func TestEmptyLists(t *testing.T) {
	a, b := three(), three()
	a.Ways, b.Ways = nil, [][3]int{}
	a.Truths[1].Dry[2], b.Truths[1].Dry[2] = nil, []api.Span{}
	if x, y := everything(a, nil, nil), everything(b, ford.Table{}, steps()); !reflect.DeepEqual(x, y) {
		t.Error(x, y)
	}
	if n, e := ford.Worth(b, at(0, 3, 3)); n != 0 || e != api.OK {
		t.Error(n, e)
	}
	if l, e := ford.Steps(b, at(0, 3, 3)); !slices.Equal(l, steps(step(0, 1))) || e != api.OK {
		t.Error(l, e)
	}
}
