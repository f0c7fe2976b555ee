package fog_test

import (
	"math"
	"math/rand"
	"slices"
	"testing"

	"laurel/api"
	"laurel/fog"
)

// P5.4: a fog in which a cart has one report more, the last one; all else is as before.
func TestWith(t *testing.T) {
	for i, x := range []struct {
		f    fog.Fog
		cart int
		r    fog.Report
	}{
		{row(), 0, yes(0)},
		{row(), 0, no(1)},
		{row(yes(1)), 0, no(0)},
		{row(yes(0)), 0, yes(1)}, // which no walk fits
		{blown(none(), blast(0, 0, 0)), 0, yes(2)},
		{seen(), 1, yes(0)},
		{cut(yes(3), no(1), no(2)), 0, yes(0)},
		{cut(), 1, yes(3)},
	} {
		want := copied(x.f)
		want.Carts[x.cart].Reports = append(want.Carts[x.cart].Reports, x.r)
		if got, e := fog.With(x.f, x.cart, x.r); e != api.OK || !sameFog(got, want) {
			t.Error(i, got, e)
		}
	}
}

// P5.4, R1, R2: the error of the cart comes first, then that of the blast, then that there is such a report already.
func TestWithErrors(t *testing.T) {
	for i, x := range []struct {
		f    fog.Fog
		cart int
		r    fog.Report
		e    api.Errno
	}{
		{row(yes(0)), 0, yes(0), api.ErrAgain},
		{row(yes(0)), 0, no(0), api.ErrAgain},
		{row(no(1), yes(0)), 0, yes(1), api.ErrAgain},
		{none(), 0, yes(1), api.ErrAgain},
		{widest(), 2, yes(7), api.ErrAgain},
		{row(), 0, yes(2), api.ErrMissing},
		{row(), 0, no(-1), api.ErrMissing},
		{row(), 0, no(math.MaxInt), api.ErrMissing},
		{row(), 0, no(math.MinInt), api.ErrMissing},
		{row(), 1, yes(0), api.ErrMissing},
		{row(), -1, yes(0), api.ErrMissing},
		{row(yes(0)), 1, yes(0), api.ErrMissing},
		{row(), math.MaxInt, yes(0), api.ErrMissing},
		{row(), math.MinInt, yes(0), api.ErrMissing},
		{seen(), 1, yes(0), api.OK}, // the other cart has it already
		{seen(), 0, yes(0), api.ErrAgain},
		{seen(), 1, yes(1), api.ErrAgain},
	} {
		got, e := fog.With(x.f, x.cart, x.r)
		if e != x.e || e != api.OK && !zero(got) {
			t.Error(i, got, e)
		}
	}
}

// three is a row whose cart has three reports that exclude each other, of which all pairs are agreed.
func three() fog.Fog {
	return blown(row(yes(0), no(2), no(3)), blast(1, 0, 0), blast(1, 1, 0))
}

// P5.4: listed reports that are agreed, or not; those that are not listed do not count.
func TestAgree(t *testing.T) {
	for i, x := range []struct {
		f       fog.Fog
		reports []int
		is      bool
	}{
		{none(), list(0), true},
		{none(), list(1), true},
		{none(), list(0, 1), false},
		{none(), list(1, 0), false},
		{none(), nil, true},
		{none(), list(), true},
		{row(), nil, true},
		{three(), list(0, 1), true},
		{three(), list(2, 0), true},
		{three(), list(1, 2), true},
		{three(), list(2, 0, 1), false},
		{cut(yes(2)), list(0), false},
		{cut(yes(2)), nil, true},
		{cut(yes(2), yes(0), no(1)), list(1, 2), true},
		{cut(yes(2), yes(0), yes(1)), list(1, 2), false},
	} {
		if is, e := fog.Agree(x.f, 0, x.reports); is != x.is || e != api.OK {
			t.Error(i, is, e)
		}
	}
	if is, e := fog.Agree(followed(none(), cart(list(3), yes(1), yes(0))), 1, list(0)); !is || e != api.OK {
		t.Error(is, e)
	}
	if is, e := fog.Agree(followed(none(), cart(list(3), yes(1), yes(0))), 1, list(1)); is || e != api.OK {
		t.Error(is, e)
	}
}

// P5.4, R1: the error of the cart comes first, then reports that are missing, then those that are listed twice, wherever they stand.
func TestAgreeErrors(t *testing.T) {
	for i, x := range []struct {
		cart    int
		reports []int
		e       api.Errno
	}{
		{0, list(2), api.ErrMissing},
		{0, list(-1), api.ErrMissing},
		{0, list(0, 1, 2), api.ErrMissing},
		{0, list(0, 0, 2), api.ErrMissing},
		{0, list(0, 0, -1), api.ErrMissing},
		{0, list(5, 5), api.ErrMissing},
		{0, list(math.MaxInt), api.ErrMissing},
		{0, list(math.MinInt, 0), api.ErrMissing},
		{0, list(0, 0), api.ErrAgain},
		{0, list(1, 0, 1), api.ErrAgain},
		{0, slices.Repeat(list(1), 10000), api.ErrAgain},
		{1, list(1), api.ErrMissing}, // one of the other cart
		{1, list(0), api.OK},
		{2, list(0, 0), api.ErrMissing},
		{-1, nil, api.ErrMissing},
		{math.MaxInt, list(0, 0), api.ErrMissing},
		{math.MinInt, list(0), api.ErrMissing},
		{0, list(0, 1), api.OK},
	} {
		if is, e := fog.Agree(seen(), x.cart, x.reports); e != x.e || is != (e == api.OK) {
			t.Error(i, is, e)
		}
	}
	if is, e := fog.Agree(row(), 0, list(0)); is || e != api.ErrMissing {
		t.Error(is, e)
	}
}

// P5.4: the first of the shortest lists of reports that exclude each other.
func TestClash(t *testing.T) {
	short := blown(row(yes(0), yes(1), yes(2)), blast(0, 3, 1))
	later := blown(row(no(0), yes(1), no(3), yes(2)), blast(2, 2, 0), blast(1, 2, 0))
	for i, x := range []struct {
		f    fog.Fog
		cart int
		want []int
		e    api.Errno
	}{
		{row(), 0, nil, api.ErrNone},
		{row(yes(0), no(1)), 0, nil, api.ErrNone},
		{row(no(0), yes(1)), 0, nil, api.ErrNone},
		{none(), 0, list(0, 1), api.OK}, // example 3
		{row(yes(1), yes(0)), 0, list(0, 1), api.OK},
		{three(), 0, list(0, 1, 2), api.OK},
		{short, 0, list(2), api.OK}, // the shorter one comes first
		{later, 0, list(0, 2), api.OK},
		{cut(no(1), yes(2), yes(0)), 0, list(1), api.OK},
		{cut(no(1), yes(0), yes(3)), 0, nil, api.ErrNone},
		{cut(no(2), yes(0), yes(1), no(3)), 0, list(1, 2), api.OK},
		{followed(none(), cart(list(3), yes(1), yes(0))), 1, list(1), api.OK},
		{followed(none(), cart(list(1), yes(1))), 1, nil, api.ErrNone},
		{seen(), 2, nil, api.ErrMissing},
		{none(), -1, nil, api.ErrMissing},
		{none(), math.MaxInt, nil, api.ErrMissing},
		{none(), math.MinInt, nil, api.ErrMissing},
	} {
		if got, e := fog.Clash(x.f, x.cart); !slices.Equal(got, x.want) || e != x.e {
			t.Error(i, got, e)
		}
	}
}

// P5.4: a clash of as many reports as there can be.
func TestClashOfAll(t *testing.T) {
	f := fog.Fog{Sands: fog.Sands{Places: 8, Minutes: 8}}
	for hub := range 7 {
		f.Sands.Tracks = append(f.Sands.Tracks, [2]int{7, hub})
	}
	c := cart(list(7))
	for place := range 8 {
		f.Blasts = append(f.Blasts, blast(8, 7-place, 0))
		c.Reports = append(c.Reports, no(place))
	}
	f.Carts = []fog.Cart{c}
	if got, e := fog.Clash(f, 0); !slices.Equal(got, list(0, 1, 2, 3, 4, 5, 6, 7)) || e != api.OK {
		t.Error(got, e)
	}
	f.Carts[0].Reports = c.Reports[:7]
	if got, e := fog.Clash(f, 0); !zero(got) || e != api.ErrNone {
		t.Error(got, e)
	}
}

// P5.4: the reports of many carts.
func TestReportsMany(t *testing.T) {
	var one, more, agreedAll int
	forMany(t, 1000, func(r *rand.Rand, f fog.Fog) {
		for c, x := range f.Carts {
			agreed := slow{f}.agreed(c)
			for range 5 {
				l := r.Perm(len(x.Reports))[:r.Intn(len(x.Reports)+1)]
				if is, e := fog.Agree(f, c, l); is != agreed(l) || e != api.OK {
					t.Error(f, c, l, is, e)
				}
			}
			want, found := first(len(x.Reports), func(l []int) bool { return !agreed(l) })
			got, e := fog.Clash(f, c)
			if !slices.Equal(got, want) || (e == api.OK) != found || !found && e != api.ErrNone {
				t.Error(f, c, got, want, e)
			}
			switch {
			case !found:
				agreedAll++
			case len(want) == 1:
				one++
			default:
				more++
			}
		}
	})
	if one < 50 || more < 50 || agreedAll < 50 {
		t.Error("too few carts of a kind to show anything", one, more, agreedAll)
	}
}
