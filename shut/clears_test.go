package shut_test

import (
	"math/rand"
	"slices"
	"testing"

	"laurel/api"
	"laurel/shut"
)

// P7.5: whether sacks clear others.
func TestClears(t *testing.T) {
	for i, x := range []struct {
		s             shut.Shore
		sacks, others []int
		want          bool
	}{
		{three(), list(0), list(1, 2), true}, // example 3
		{three(), list(0), list(2, 1), true},
		{three(), list(0), list(3, 2, 1, 0), true},
		{three(), list(1), list(0), false},
		{three(), list(1), list(1), true},
		{three(), list(2), list(1, 2), false},
		{three(), nil, list(3), true},
		{three(), list(), list(), true},
		{three(), nil, nil, true},
		{three(), nil, list(2), false},
		{three(), list(3), list(0), false},
		{three(), list(3, 2, 1, 0), nil, true},
		{three(), list(2, 1), list(0), false},
		{three(), list(2, 0), list(0, 1, 2, 3), true},
		{three(foul(0)), list(0), list(1), false},
		{three(foul(0)), list(0), nil, false}, // no truth that fits has it clean
		{three(foul(0)), list(3, 0), list(3), false},
		{three(foul(0)), list(1, 2), list(2, 1), true},
		{three(foul(0)), list(1, 2), list(0), false},
		{three(foul(0)), list(2), list(1), false},
		{three(clean(0)), nil, list(0, 1, 2), true},
		{wet(), list(0), list(3), true},
		{wet(), list(0), list(1), false},
		{wet(), list(0, 1), list(3, 1), true},
		{wet(), list(2), list(2), false},
		{wet(), list(3), list(0), false},
		{wet(foul(3)), list(0), nil, false},
		{dry(), nil, nil, true},
	} {
		if got, e := shut.Clears(x.s, x.sacks, x.others); got != x.want || e != api.OK {
			t.Error(i, got, e)
		}
	}
}

// P7.5: as few sacks as can be that clear others, the first such list.
func TestFewest(t *testing.T) {
	for i, x := range []struct {
		s            shut.Shore
		others, want []int
		e            api.Errno
	}{
		{three(), list(1, 2), list(0), api.OK}, // example 3
		{three(), list(2), list(0), api.OK},
		{three(), list(1), list(0), api.OK},
		{three(), list(0), list(0), api.OK},
		{three(), list(3), nil, api.OK},
		{three(), nil, nil, api.OK},
		{three(), list(), nil, api.OK},
		{three(), list(3, 1), list(0), api.OK},
		{three(foul(0)), list(1, 2), list(1, 2), api.OK},
		{three(foul(0)), list(2, 1), list(1, 2), api.OK},
		{three(foul(0)), list(2), list(2), api.OK},
		{three(foul(0)), list(0), nil, api.ErrNone},
		{three(foul(0)), list(3, 0), nil, api.ErrNone},
		{three(clean(0)), list(1), nil, api.OK},
		{wet(), list(3), list(0), api.OK},
		{wet(), list(1), list(1), api.OK},
		{wet(), list(3, 1), list(0, 1), api.OK},
		{wet(), list(2), nil, api.ErrNone},
		{wet(clean(0)), list(3), nil, api.OK},
		{jam(), list(2), list(0), api.OK}, // each sack clears those from farther beds
		{jam(), list(1, 2), list(0), api.OK},
		{jam(foul(0)), list(2), list(1), api.OK},
		{jam(foul(0)), list(2, 1), list(1), api.OK},
		{gap(), list(0), list(0), api.OK},
		{gap(), list(1, 0), list(0, 1), api.OK},
		{widest(), list(5, 3), list(3, 5), api.OK},
		{widest(), list(5, 4, 3, 2, 1, 0), list(0, 1, 2, 3, 4, 5), api.OK},
		{dry(), nil, nil, api.OK},
	} {
		if got, e := shut.Fewest(x.s, x.others); !slices.Equal(got, x.want) || e != x.e {
			t.Error(i, got, e)
		}
	}
}

// P7.5: two sacks that clear a third one, as they show that neither rain closed its bed; none of them is enough.
func TestTwoClear(t *testing.T) {
	s := knot()
	s.Tests = nil
	if got, e := shut.Fewest(s, list(0)); !slices.Equal(got, list(0)) || e != api.OK {
		t.Error(got, e)
	}
	for i, x := range []struct {
		sacks []int
		want  bool
	}{{list(1), false}, {list(2), false}, {list(1, 2), true}, {list(2, 1), true}, {list(0), true}} {
		if got, e := shut.Clears(s, x.sacks, list(0)); got != x.want || e != api.OK {
			t.Error(i, got, e)
		}
	}
	s.Sacks = append(s.Sacks, s.Sacks[0], sack(0, 1, 0, 1)) // these are cleared by those two as well, and not by sack 0
	for i, x := range []struct{ others, want []int }{
		{list(3), list(3)},
		{list(0, 3), list(0, 3)}, // before 1 and 2
		{list(4, 3), list(1, 2)},
		{list(4, 3, 0), list(1, 2)},
		{list(3, 1), list(1, 2)}, // before 1 and 3
	} {
		if got, e := shut.Fewest(s, x.others); !slices.Equal(got, x.want) || e != api.OK {
			t.Error(i, got, e)
		}
	}
}

// P7.5, R1, R2: sacks that there are not come before those that are listed twice, in both lists, and these before that no truth fits.
func TestClearsErrors(t *testing.T) {
	for _, s := range []shut.Shore{three(), none()} {
		clash := api.OK
		if len(s.Tests) > 0 {
			clash = api.ErrClash
		}
		for i, x := range []struct {
			one, other []int
			e          api.Errno
		}{
			{list(0), list(1), clash},
			{nil, list(3), clash},
			{list(4), list(1), api.ErrMissing},
			{list(0), list(-1), api.ErrMissing},
			{list(0, 4), list(1, 1), api.ErrMissing},
			{list(0, 0), list(1, 4), api.ErrMissing},
			{list(0, 0, 4), nil, api.ErrMissing},
			{nil, list(1, 1, 4), api.ErrMissing},
			{list(4, 4), nil, api.ErrMissing},
			{list(0, 0), list(1), api.ErrAgain},
			{list(1), list(0, 2, 0), api.ErrAgain},
			{nil, make([]int, 1000), api.ErrAgain},
			{list(2, 1, 0), list(0, 1, 2), clash}, // one in both lists is not twice in either
		} {
			if got, e := shut.Clears(s, x.one, x.other); e != x.e || e != api.OK && got {
				t.Error(i, got, e)
			}
			if len(x.one) > 0 {
				continue
			}
			if got, e := shut.Fewest(s, x.other); e != x.e || !zero(got) {
				t.Error(i, got, e)
			}
		}
		for _, n := range outside(0, 3) {
			one, e := shut.Clears(s, list(0, n), nil)
			other, g := shut.Clears(s, nil, list(n, n))
			fewest, h := shut.Fewest(s, list(0, 0, n))
			if one || other || !zero(fewest) || e != api.ErrMissing || g != e || h != e {
				t.Error(n, one, other, fewest, e, g, h)
			}
		}
	}
}

// anySacks returns some sacks of a shore, in any order.
func anySacks(r *rand.Rand, s shut.Shore) []int {
	return r.Perm(len(s.Sacks))[:r.Intn(len(s.Sacks)+1)]
}

// P7.5: what clears in many shores.
func TestClearsMany(t *testing.T) {
	var yes, no, none int
	var sizes, freed [5]int
	forMany(t, 2500, func(r *rand.Rand, s shut.Shore) {
		o := slow{s}
		fitting := o.fitting()
		want := api.OK
		if len(fitting) == 0 {
			want = api.ErrClash
		}
		for range 3 {
			sacks, others := anySacks(r, s), anySacks(r, s)
			is := o.clears(fitting, sacks, others)
			if got, e := shut.Clears(s, sacks, others); got != is || e != want {
				t.Error(s, sacks, others, got, e)
			}
			if is {
				yes++
			} else {
				no++
			}
			fewest, found := first(len(s.Sacks), func(l []int) bool { return o.clears(fitting, l, others) })
			e := want
			if e == api.OK && !found {
				e = api.ErrNone
				none++
			}
			if got, g := shut.Fewest(s, others); !slices.Equal(got, fewest) || g != e {
				t.Error(s, others, got, fewest, g, e)
			}
			sizes[len(fewest)]++
			if len(fewest) < len(others) {
				freed[len(fewest)]++
			}
		}
	})
	if yes < 1000 || no < 1000 || none < 300 || sizes[1] < 300 || sizes[2] < 50 || sizes[3] < 5 || freed[1] < 100 || freed[2] < 10 {
		t.Error("too few shores of a kind to show anything", yes, no, none, sizes, freed)
	}
}
