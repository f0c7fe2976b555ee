package shut_test

import (
	"math/rand"
	"reflect"
	"slices"
	"testing"

	"laurel/api"
	"laurel/shut"
)

// stated returns the states of all sacks of a shore, and whether some truth fits.
func stated(t *testing.T, s shut.Shore) ([]shut.State, bool) {
	t.Helper()
	got, e := shut.States(s)
	if e != api.OK && e != api.ErrClash {
		t.Error(s, e)
	}
	return got, e == api.OK
}

// P7.6, P0.8: no sack that may be sold was dug in a closed bed, in any truth that fits; each other one is foul in a truth that is shown.
func TestSoldAreClean(t *testing.T) {
	var sold, unsold int
	forMany(t, 800, func(_ *rand.Rand, s shut.Shore) {
		clean, e := shut.Sold(s)
		if e != api.OK {
			return
		}
		for _, x := range (slow{s}).truths() {
			is, e := shut.Agrees(s, x)
			if !is || e != api.OK {
				continue
			}
			foul, e := shut.FoulIn(s, x)
			if len(common(foul, clean)) > 0 || e != api.OK {
				t.Error(s, x, clean, foul, e)
			}
		}
		for k := range s.Sacks {
			isSold := slices.Contains(clean, k)
			showsSack(t, s, k, true, !isSold)
			if isSold {
				sold++
				showsSack(t, s, k, false, true)
			} else {
				unsold++
			}
		}
	})
	if sold < 300 || unsold < 300 {
		t.Error("too few sacks of a kind to show anything", sold, unsold)
	}
}

// P7.6: one test more never makes more truths fit, and as long as some fits, what was Clean or Foul is so still.
func TestOneTestMore(t *testing.T) {
	var fewer, clash, told int
	forMany(t, 2000, func(r *rand.Rand, s shut.Shore) {
		if len(s.Sacks) == 0 {
			return
		}
		x := shut.Test{Sack: r.Intn(len(s.Sacks)), Foul: r.Intn(2) == 0}
		more, e := shut.With(s, x)
		if e != api.OK {
			return
		}
		before, e := shut.Count(s)
		after, g := shut.Count(more)
		if after > before || e != api.OK || g != api.OK {
			t.Error(s, x, before, after, e, g)
		}
		if after < before {
			fewer++
		}
		was, _ := stated(t, s)
		is, fits := stated(t, more)
		if fits != (after > 0) {
			t.Error(s, x, after)
		}
		if !fits {
			clash++
			return
		}
		for k := range s.Sacks {
			if was[k] != shut.Open && is[k] != was[k] {
				t.Error(s, x, k, was, is)
			}
			if k != x.Sack && was[k] != is[k] {
				told++
			}
		}
		if (is[x.Sack] == shut.Foul) != x.Foul || is[x.Sack] == shut.Open {
			t.Error(s, x, is)
		}
	})
	if fewer < 300 || clash < 100 || told < 100 {
		t.Error("too few tests of a kind to show anything", fewer, clash, told)
	}
}

// P7.6: just sacks that are Clean are cleared by an empty list.
func TestClearedByNone(t *testing.T) {
	var met [3]int
	forMany(t, 800, func(_ *rand.Rand, s shut.Shore) {
		states, fits := stated(t, s)
		for k := range s.Sacks {
			is, e := shut.Clears(s, nil, list(k))
			fewest, g := shut.Fewest(s, list(k))
			if !fits {
				if is || e != api.ErrClash || g != e {
					t.Error(s, k, is, e, g)
				}
				continue
			}
			met[states[k]]++
			if is != (states[k] == shut.Clean) || e != api.OK || is != (g == api.OK && len(fewest) == 0) {
				t.Error(s, k, is, states, fewest, e, g)
			}
		}
	})
	if slices.Min(met[:]) < 200 {
		t.Error("too few sacks of a kind to show anything", met)
	}
}

// P7.6: if sacks clear others, and a test of each of them is clean, the others may be sold; if one less clears them, that is enough.
func TestClearedAreSold(t *testing.T) {
	var cleared int
	forMany(t, 2000, func(r *rand.Rand, s shut.Shore) {
		sacks, others := anySacks(r, s), anySacks(r, s)
		if is, _ := shut.Clears(s, sacks, others); !is {
			return
		}
		tested := copied(s)
		for _, k := range sacks {
			more, e := shut.With(tested, clean(k))
			switch e {
			case api.OK:
				tested = more
			case api.ErrAgain:
				if !slices.Contains(s.Tests, clean(k)) {
					t.Error(s, sacks, others)
				}
			default:
				t.Error(s, k, e)
			}
		}
		if sold, e := shut.Sold(tested); !hasAll(sold, others) || !hasAll(sold, sacks) || e != api.OK {
			t.Error(s, sacks, others, sold, e)
		}
		before, _ := shut.Sold(s)
		if !hasAll(before, others) {
			cleared++
		}
		if fewest, e := shut.Fewest(s, others); len(fewest) > len(sacks) || e != api.OK {
			t.Error(s, sacks, others, fewest, e)
		}
	})
	if cleared < 100 {
		t.Error("too few sacks that clear others to show anything", cleared)
	}
}

// P7.6: some sacks clear others just if some truth that fits has all these others clean.
func TestFewestIsThere(t *testing.T) {
	var yes, no int
	forMany(t, 1000, func(r *rand.Rand, s shut.Shore) {
		others := anySacks(r, s)
		fewest, e := shut.Fewest(s, others)
		if e == api.ErrClash {
			return
		}
		is := slices.ContainsFunc(slow{s}.truths(), func(x shut.Truth) bool {
			fits, _ := shut.Agrees(s, x)
			foul, _ := shut.FoulIn(s, x)
			return fits && len(common(foul, others)) == 0
		})
		if is != (e == api.OK) || !is && e != api.ErrNone {
			t.Error(s, others, is, e)
		}
		if !is {
			no++
			return
		}
		yes++
		if clear, e := shut.Clears(s, fewest, others); !clear || e != api.OK {
			t.Error(s, others, fewest, e)
		}
		for i := range fewest {
			if clear, e := shut.Clears(s, without(fewest, i), others); clear || e != api.OK {
				t.Error(s, others, fewest, i, e)
			}
		}
	})
	if yes < 200 || no < 200 {
		t.Error("too few sacks of a kind to show anything", yes, no)
	}
}

// P7.6: tests that clash are not agreed, but all of them save any one are.
func TestClashIsAgree(t *testing.T) {
	var clashes int
	forMany(t, 1500, func(_ *rand.Rand, s shut.Shore) {
		clash, e := shut.Clash(s)
		n, g := shut.Count(s)
		if (e == api.ErrNone) != (n > 0) || g != api.OK {
			t.Error(s, clash, n, e, g)
		}
		if e != api.OK {
			return
		}
		clashes++
		if is, e := shut.Agree(s, clash); is || e != api.OK {
			t.Error(s, clash, is, e)
		}
		for i := range clash {
			if is, e := shut.Agree(s, without(clash, i)); !is || e != api.OK {
				t.Error(s, clash, i, is, e)
			}
		}
	})
	if clashes < 100 {
		t.Error("too few clashes to show anything", clashes)
	}
}

// P7.6: if a drain needs more, no sack that was Clean without tests becomes anything else.
func TestDrainNeedsMore(t *testing.T) {
	var freed int
	forMany(t, 1000, func(r *rand.Rand, s shut.Shore) {
		s.Tests = nil
		for d := range s.Drains {
			more := copied(s)
			more.Drains[d].Needs += r.Intn(shut.MaxFall - more.Drains[d].Needs + 1)
			was, _ := stated(t, s)
			is, fits := stated(t, more)
			if !fits || len(is) != len(was) {
				t.Error(s, d, was, is)
			}
			for k := range was {
				if was[k] == shut.Clean && is[k] != shut.Clean {
					t.Error(s, d, k, was, is)
				}
				if was[k] != shut.Clean && is[k] == shut.Clean {
					freed++
				}
			}
		}
	})
	if freed < 50 {
		t.Error("too few sacks that become clean to show anything", freed)
	}
}

// P0.1: no function panics, whatever its arguments are, and all end.
func TestAnyArguments(t *testing.T) {
	some := append(farNumbers(), 0, 1, -1, 2, 3, 4, 5, 6, 7, 9, 10, 12, 13)
	r := rand.New(rand.NewSource(7))
	pick := func() int { return some[r.Intn(len(some))] }
	var allowed int
	for range 5000 {
		s := shut.Shore{Beds: pick(), Tides: pick()}
		if r.Intn(3) > 0 {
			s = anyShore(r)
		}
		for range r.Intn(2) {
			s.Drains = append(s.Drains, drain(pick(), pick(), list(pick(), pick())[:r.Intn(3)]...))
		}
		for range r.Intn(2) {
			s.Rains = append(s.Rains, rain(pick(), pick(), pick()))
		}
		for range r.Intn(2) {
			s.Sacks = append(s.Sacks, sack(pick(), pick(), list(pick(), pick())[:r.Intn(3)]...))
		}
		for range r.Intn(2) {
			s.Tests = append(s.Tests, foul(pick()))
		}
		want := shut.Check(s)
		if want == api.OK {
			allowed++
		}
		for _, c := range calls(pick()) {
			if isZero, e := c.ask(s); e != api.OK && !isZero || want != api.OK && e != want {
				t.Error(c.name, s, isZero, e)
			}
		}
	}
	if allowed < 200 {
		t.Error("too few shores that are allowed to show anything", allowed)
	}
}

// P0.1: all functions end, and have answers, for shores that are as large as can be.
func TestWidest(t *testing.T) {
	for _, s := range []shut.Shore{widest(), widest(clean(0), foul(1), clean(2), foul(3), clean(4), foul(5))} {
		for n := range 4 {
			for _, c := range calls(n) {
				_, e := c.ask(s)
				want := api.OK
				switch {
				case c.name == "FoulIn":
					want = api.ErrWrong
				case c.name == "Clash":
					want = api.ErrNone
				case c.name == "Agree" && len(s.Tests) == 0:
					want = api.ErrMissing
				case c.name == "With" && len(s.Tests) > 0:
					want = api.ErrAgain
				case c.name == "Shows" && len(s.Tests) > 0: // it is asked for what the test of the sack rules out
					want = api.ErrNone
				case c.name == "Fewest" && len(s.Tests) > 0 && n%2 == 1:
					want = api.ErrNone
				}
				if e != want {
					t.Error(n, c.name, len(s.Tests), e)
				}
			}
		}
	}
}

// shores are some that have answers of all kinds.
func shores() []shut.Shore {
	return []shut.Shore{three(), three(clean(0)), three(foul(0), clean(2)), none(), wet(), wet(foul(3)), seen(), gap(foul(0), clean(1)), jam(clean(1), foul(0), foul(2)), knot(), rained(wet(clean(1)))}
}

// everything returns all results for a shore, so that they can be held against others.
func everything(s shut.Shore, x shut.Truth, tests, sacks, others []int) []any {
	out := []any{shut.Check(s)}
	keep := func(results ...any) {
		for _, x := range results {
			if v := reflect.ValueOf(x); v.Kind() == reflect.Slice && v.Len() == 0 {
				x = nil
			}
			out = append(out, x)
		}
	}
	count, e := shut.Count(s)
	keep(count, e)
	is, e := shut.Agrees(s, x)
	keep(is, e)
	foulIn, e := shut.FoulIn(s, x)
	keep(foulIn, e)
	states, e := shut.States(s)
	keep(states, e)
	sold, e := shut.Sold(s)
	keep(sold, e)
	is, e = shut.Agree(s, tests)
	keep(is, e)
	clash, e := shut.Clash(s)
	keep(clash, e)
	is, e = shut.Clears(s, sacks, others)
	keep(is, e)
	fewest, e := shut.Fewest(s, others)
	keep(fewest, e)
	for n := range 4 {
		falls, e := shut.Falls(s, n)
		keep(falls, e)
		tides, e := shut.Tides(s, n)
		keep(tides, e)
		from, e := shut.From(s, n)
		keep(from, e)
		for tide := range 4 {
			bars, e := shut.Bars(s, n, tide)
			keep(bars, e)
			state, e := shut.Bed(s, n, tide)
			keep(state, e)
		}
		for _, foul := range []bool{true, false} {
			shown, e := shut.Shows(s, n, foul)
			keep(shown.Falls, shown.From, e)
			more, e := shut.With(s, shut.Test{Sack: n, Foul: foul})
			keep(more.Beds, more.Tides, more.Rains, more.Tests, e)
			for _, d := range more.Drains {
				keep(d.Beds, d.Needs, d.Shuts)
			}
			for _, x := range more.Sacks {
				keep(x.Beds, x.Tides)
			}
		}
	}
	return out
}

// R4, R5: arguments come back unchanged, and the same question has the same answer again.
func TestArgumentsUnchanged(t *testing.T) {
	for i, s := range shores() {
		same := copied(s)
		x, _ := shut.Shows(s, 1, true)
		y := truth(slices.Clone(x.Falls), slices.Clone(x.From)...)
		tests, sacks, others := list(1, 0), list(1, 0), list(1)
		before := everything(s, x, tests, sacks, others)
		if after := everything(s, x, tests, sacks, others); !reflect.DeepEqual(before, after) {
			t.Error(i, before, after)
		}
		if !sameShore(s, same) || !sameTruth(x, y) || !slices.Equal(tests, list(1, 0)) || !slices.Equal(sacks, list(1, 0)) || !slices.Equal(others, list(1)) {
			t.Error(i, s, x, tests, sacks, others)
		}
	}
}

// roomy returns a copy of a list with marks in the room behind it, and whether they are all there still.
func roomy[T comparable](l []T, mark T) ([]T, func() bool) {
	long := append(slices.Clone(l), mark, mark, mark)
	return long[:len(l)], func() bool {
		return !slices.ContainsFunc(long[len(l):], func(x T) bool { return x != mark })
	}
}

// R4: a list that has room behind it is not written to.
func TestRoomUnchanged(t *testing.T) {
	for _, s := range []shut.Shore{wet(foul(3), clean(1)), none()} {
		var kept []func() bool
		keep := func(is func() bool) { kept = append(kept, is) }
		var is func() bool
		s.Rains, is = roomy(s.Rains, rain(77, 77, 77))
		keep(is)
		s.Tests, is = roomy(s.Tests, foul(77))
		keep(is)
		for i := range s.Drains {
			s.Drains[i].Beds, is = roomy(s.Drains[i].Beds, 77)
			keep(is)
		}
		for i := range s.Sacks {
			s.Sacks[i].Beds, is = roomy(s.Sacks[i].Beds, 77)
			keep(is)
		}
		drains, sacks := append(slices.Clone(s.Drains), shut.Drain{}), append(slices.Clone(s.Sacks), shut.Sack{})
		s.Drains, s.Sacks = drains[:len(s.Drains)], sacks[:len(s.Sacks)]
		x, _ := shut.Shows(s, 2, true)
		x.Falls, is = roomy(x.Falls, 77)
		keep(is)
		x.From, is = roomy(x.From, at(77, 77))
		keep(is)
		some, is := roomy(list(1, 0), 77)
		keep(is)
		everything(s, x, some, some, some[:1])
		everything(s, x, some[:1], some[:1], some)
		for i, is := range kept {
			if !is() {
				t.Error(i)
			}
		}
		if d, x := drains[len(s.Drains)], sacks[len(s.Sacks)]; d.Beds != nil || x.Beds != nil {
			t.Error(d, x)
		}
	}
}

// spoil overwrites a list, and the room behind it.
func spoil[T any](l []T, x T) {
	l = l[:cap(l)]
	for i := range l {
		l[i] = x
	}
}

// spoilShore overwrites a shore, each list of which must have memory of its own.
func spoilShore(t *testing.T, s shut.Shore) {
	t.Helper()
	spoil(s.Rains, rain(77, 77, 77))
	spoil(s.Tests, foul(77))
	for i, d := range s.Drains {
		if slices.Contains(d.Beds, 77) {
			t.Error("two lists of a shore share memory", i)
		}
		spoil(d.Beds, 77)
	}
	for i, x := range s.Sacks {
		if slices.Contains(x.Beds, 77) {
			t.Error("two lists of a shore share memory", i)
		}
		spoil(x.Beds, 77)
	}
	spoil(s.Drains, shut.Drain{})
	spoil(s.Sacks, shut.Sack{})
}

// R4: results share no memory with arguments, with each other, or with later results.
func TestResultsApart(t *testing.T) {
	for i, s := range shores() {
		s.Drains[1].Beds = s.Sacks[1].Beds // lists that are shared
		same := copied(s)
		x, _ := shut.Shows(s, 1, true)
		want := everything(same, x, nil, nil, list(1))
		for n := range 4 {
			for _, foul := range []bool{true, false} {
				more, _ := shut.With(s, shut.Test{Sack: n, Foul: foul})
				spoilShore(t, more)
				shown, _ := shut.Shows(s, n, foul)
				spoil(shown.Falls, 77)
				spoil(shown.From, at(77, 77))
			}
			others := list(n % 2)
			falls, _ := shut.Falls(s, n)
			tides, _ := shut.Tides(s, n)
			sold, _ := shut.Sold(s)
			clash, _ := shut.Clash(s)
			fewest, _ := shut.Fewest(s, others)
			foulIn, _ := shut.FoulIn(s, x)
			for _, l := range [][]int{falls, tides, sold, clash, fewest, foulIn} {
				spoil(l, 77)
			}
			from, _ := shut.From(s, n)
			spoil(from, at(77, 77))
			bars, _ := shut.Bars(s, n, 2)
			spoil(bars, bar(77, 77))
			states, _ := shut.States(s)
			spoil(states, 77)
			if others[0] != n%2 {
				t.Error(i, others)
			}
		}
		if !sameShore(s, same) || !reflect.DeepEqual(everything(s, x, nil, nil, list(1)), want) {
			t.Error(i, s)
		}
	}
}

// R3: nil lists and empty ones are the same.
func TestEmptyLists(t *testing.T) {
	a := shut.Shore{Beds: 2, Tides: 2, Drains: []shut.Drain{drain(1, 1), drain(2, 2, 1)}}
	b := shut.Shore{Beds: 2, Tides: 2, Drains: []shut.Drain{{Beds: list(), Needs: 1, Shuts: 1}, drain(2, 2, 1)}}
	b.Rains, b.Sacks, b.Tests = []shut.Rain{}, []shut.Sack{}, []shut.Test{}
	x, y := everything(a, shut.Truth{}, nil, nil, nil), everything(b, truth(list(), origins()...), list(), list(), list())
	if !reflect.DeepEqual(x, y) {
		t.Error(x, y)
	}
	for i, s := range []shut.Shore{a, b} {
		n, e := shut.Count(s)
		is, g := shut.Agrees(s, shut.Truth{})
		clear, h := shut.Clears(s, list(), nil)
		if n != 1 || !is || !clear || e != api.OK || g != api.OK || h != api.OK {
			t.Error(i, n, is, clear, e, g, h)
		}
	}
}
