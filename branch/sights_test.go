package branch_test

import (
	"math"
	"math/rand"
	"slices"
	"testing"

	"laurel/api"
	"laurel/branch"
)

// P3.5: listed sights that are agreed, or not; those that are not listed do not count.
func TestAgree(t *testing.T) {
	clash := one(1, gone(1, 1), up(1, 1), up(1, 2))
	for i, x := range []struct {
		c      branch.Channel
		sights []int
		is     bool
	}{
		{clash, list(0), true},
		{clash, list(1), true},
		{clash, list(0, 1), false},
		{clash, list(1, 0), false},
		{clash, list(2, 0), true},
		{clash, list(1, 2), false},
		{clash, list(2, 1, 0), false},
		{clash, nil, true},
		{clash, list(), true},
		{one(1, gone(1, 4)), list(0), false},
		{one(1, gone(1, 4)), nil, true},
		{one(1), nil, true},
		{one(2, up(1, 0), up(2, 2)), list(0, 1), false},
		{one(2, up(1, 0), up(2, 2)), list(1), true},
		{one(0, gone(0, 1)), list(0), false},
	} {
		if is, e := branch.Agree(x.c, x.sights); is != x.is || e != api.OK {
			t.Error(i, is, e)
		}
	}
}

// P3.5: sights that are missing come before sights that are listed twice, wherever they stand.
func TestAgreeErrors(t *testing.T) {
	for i, x := range []struct {
		sights []int
		e      api.Errno
	}{
		{list(2), api.ErrMissing},
		{list(-1), api.ErrMissing},
		{list(0, 1, 2), api.ErrMissing},
		{list(0, 0, 2), api.ErrMissing},
		{list(5, 5), api.ErrMissing},
		{list(math.MaxInt), api.ErrMissing},
		{list(math.MinInt, 0), api.ErrMissing},
		{list(0, 0), api.ErrAgain},
		{list(0, 1, 0), api.ErrAgain},
		{list(1, 0, 0, 1), api.ErrAgain},
		{slices.Repeat(list(1), 100), api.ErrAgain},
		{list(0, 1), api.OK},
	} {
		if is, e := branch.Agree(one(1, up(1, 1), gone(1, 2)), x.sights); e != x.e || is != (e == api.OK) {
			t.Error(i, is, e)
		}
	}
	if is, e := branch.Agree(one(1), list(0)); is || e != api.ErrMissing {
		t.Error(is, e)
	}
}

// P3.5: the first of the shortest lists of sights that exclude each other, and of those that are wrong.
func TestClashAndWrong(t *testing.T) {
	for i, x := range []struct {
		c            branch.Channel
		clash, wrong []int
		e            api.Errno
	}{
		{one(1), nil, nil, api.ErrNone},
		{one(1, gone(1, 1), up(1, 2)), nil, nil, api.ErrNone},
		{one(1, gone(1, 1), gone(1, 4)), list(1), list(1), api.OK}, // example 4
		{one(1, gone(1, 1), up(1, 1)), list(0, 1), list(0), api.OK},
		{one(1, gone(1, 0), gone(1, 1), gone(1, 2)), list(0, 1, 2), list(0), api.OK},
		{one(1, up(1, 1), up(1, 0), gone(1, 1)), list(0, 1), list(0), api.OK},
		{one(1, up(1, 0), up(1, 1), gone(1, 1)), list(0, 1), list(1), api.OK},
		{one(1, up(1, 2), up(1, 0), up(1, 1)), list(0, 1), list(0, 1), api.OK},
		{one(1, up(1, 4), up(1, 2), up(1, 0)), list(1, 2), list(1), api.OK},
		{one(2, up(1, 0), up(2, 3), up(1, 0)), list(0, 1), list(1), api.OK},
		{one(2, up(2, 3), up(1, 0), up(1, 0)), list(0, 1), list(0), api.OK},
		{one(1, up(1, 0), gone(1, 0), up(1, 5)), list(2), list(0, 2), api.OK}, // the shorter clash comes first
		{one(1, up(1, 5), gone(1, 4)), list(0), list(0, 1), api.OK},
		{one(1, up(1, 1), up(1, 1), gone(1, 1), gone(1, 1)), list(0, 2), list(0, 1), api.OK},
		{one(1, up(1, 0), up(1, 0), up(1, 2), up(1, 1), up(1, 0)), list(0, 2), list(2, 3), api.OK},
		{one(1, slices.Repeat([]branch.Sight{up(1, 5)}, 8)...), list(0), list(0, 1, 2, 3, 4, 5, 6, 7), api.OK},
		{one(0, up(0, 1), gone(0, 1), up(0, 4)), list(1), list(1), api.OK},
		{with(with(with(near(), gone(1, 1)), gone(1, 2)), gone(1, 3)), list(0, 1, 2), list(0), api.OK},
	} {
		clash, e := branch.Clash(x.c)
		wrong, f := branch.Wrong(x.c)
		if !slices.Equal(clash, x.clash) || !slices.Equal(wrong, x.wrong) || e != x.e || f != api.OK {
			t.Error(i, clash, wrong, e, f)
		}
	}
}

// P3.5: a clash of all sights that there can be.
func TestClashOfAll(t *testing.T) {
	c := branch.Channel{Cells: 8, Tides: 4, Fords: list(3), Sands: sands(sand(0, 7, 2))}
	for cell := range 8 {
		c.Sights = append(c.Sights, gone(4, cell))
	}
	clash, e := branch.Clash(c)
	wrong, f := branch.Wrong(c)
	if !slices.Equal(clash, list(0, 1, 2, 3, 4, 5, 6, 7)) || !slices.Equal(wrong, list(0)) || e != api.OK || f != api.OK {
		t.Error(clash, wrong, e, f)
	}
}

// P3.5: the sights of many channels.
func TestSightsMany(t *testing.T) {
	var clashes, longer int
	forMany(t, 2000, func(r *rand.Rand, c branch.Channel) {
		o := slow{c}
		agreed := o.agreed()
		for range 10 {
			l := r.Perm(len(c.Sights))[:r.Intn(len(c.Sights)+1)]
			if is, e := branch.Agree(c, l); is != agreed(l) || e != api.OK {
				t.Error(c, l, is, e)
			}
		}
		clash, e := branch.Clash(c)
		all := o.lists(func(l []int) bool { return !agreed(l) })
		if len(all) == 0 && (!zero(clash) || e != api.ErrNone) || len(all) > 0 && (!slices.Equal(clash, all[0]) || e != api.OK) {
			t.Error(c, clash, all, e)
		}
		wrong, e := branch.Wrong(c)
		if all = o.lists(func(l []int) bool { return agreed(o.others(l)) }); !slices.Equal(wrong, all[0]) || e != api.OK {
			t.Error(c, wrong, all, e)
		}
		if len(clash) > 1 {
			clashes++
		}
		if len(wrong) > 1 {
			longer++
		}
	})
	if clashes < 50 || longer < 50 {
		t.Error("too few sights that clash to show anything", clashes, longer)
	}
}

// P3.6: the sight that settles most, with the least cell of several, and how many courses are left at most.
func TestAsk(t *testing.T) {
	for i, x := range []struct {
		c    branch.Channel
		want branch.Sight
		n    int
		e    api.Errno
	}{
		{two(), up(1, 0), 1, api.OK}, // example 3
		{one(1), up(1, 0), 2, api.OK},
		{one(2), up(2, 1), 5, api.OK},
		{near(), up(1, 0), 6, api.OK},
		{with(near(), up(1, 0)), up(1, 1), 3, api.OK},
		{with(with(near(), up(1, 0)), up(1, 1)), up(1, 2), 2, api.OK},
		{one(2, up(2, 4)), up(2, 1), 5, api.OK},
		{one(2, up(2, 0)), up(2, 0), 2, api.OK}, // a sight that tells nothing, as all do
		{with(with(two(), up(1, 4)), up(1, 4)), up(1, 0), 1, api.OK},
		{one(0), branch.Sight{}, 0, api.ErrNone},
		{one(1, up(1, 2)), branch.Sight{}, 0, api.ErrNone},
		{one(1, gone(1, 4)), branch.Sight{}, 0, api.ErrClash},
		{one(0, gone(0, 4)), branch.Sight{}, 0, api.ErrClash},
	} {
		if got, n, e := branch.Ask(x.c); got != x.want || n != x.n || e != x.e {
			t.Error(i, got, n, e)
		}
	}
	full := with(two(), up(1, 4))
	full.Sights = slices.Repeat(full.Sights, 4)
	if got, n, e := branch.Ask(full); got != up(1, 0) || n != 1 || e != api.OK {
		t.Error(got, n, e)
	}
}

// P3.6: what to look at in many channels.
func TestAskMany(t *testing.T) {
	var asked int
	forMany(t, 500, func(_ *rand.Rand, c branch.Channel) {
		fitting := slow{c}.fitting()
		var want branch.Sight
		least, e := 0, api.OK
		switch len(fitting) {
		case 0:
			e = api.ErrClash
		case 1:
			e = api.ErrNone
		default:
			asked++
			least = math.MaxInt
			for cell := range c.Cells {
				s, agree := up(c.Tides, cell), 0
				for _, course := range fitting {
					if agrees(course, s) {
						agree++
					}
				}
				if n := max(agree, len(fitting)-agree); n < least {
					want, least = s, n
				}
			}
		}
		if got, n, f := branch.Ask(c); got != want || n != least || f != e {
			t.Error(c, got, n, f, want, least, e)
		}
	})
	if asked < 100 {
		t.Error("too few channels that can be asked to show anything", asked)
	}
}
