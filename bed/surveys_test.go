package bed_test

import (
	"math/rand"
	"slices"
	"testing"

	"laurel/api"
	"laurel/bed"
)

// P4.4: the first of the shortest lists of surveys that clash; none if all agree, or if there is no course at all.
func TestClash(t *testing.T) {
	for i, x := range []struct {
		b    bed.Bed
		want []int
		e    api.Errno
	}{
		{two(found(1, 21, 30), found(2, 0, 5)), list(0, 1), api.OK}, // example 3
		{two(found(2, 0, 5)), nil, api.ErrNone},
		{two(found(1, 21, 30)), nil, api.ErrNone},
		{two(), nil, api.ErrNone},
		{two(found(2, 0, 5), found(0, 0, 50), found(1, 21, 30), found(1, 22, 30)), list(0, 2), api.OK},
		{two(found(2, 0, 5), found(1, 21, 30), found(1, 24, 30)), list(2), api.OK}, // the shorter list comes first
		{two(found(1, 24, 30), found(1, 0, 8)), list(0), api.OK},
		{two(found(0, 18, 19), found(1, 21, 30), found(0, 20, 22)), list(0, 1), api.OK},
		{two(found(0, 20, 22), found(0, 18, 20), found(1, 22, 30), found(1, 9, 21)), list(1, 2), api.OK},
		{two(found(1, 9, 50), found(1, 14, 50), found(2, 0, 1)), list(1, 2), api.OK},
		{two(found(0, 0, 21), found(0, 20, 50), found(1, 23, 50), found(1, 0, 22)), list(0, 2), api.OK},
		{two(found(0, 0, 50), found(0, 20, 22), found(0, 22, 22), found(2, 0, 1), found(1, 0, 13)), list(2, 3), api.OK},
		{two(found(1, 9, 50), found(1, 13, 50), found(2, 0, 1)), nil, api.ErrNone},
		{still(9, 4, 4, 1, found(0, 0, 5), found(1, 2, 9), found(0, 0, 9), found(1, 6, 9), found(0, 0, 1)), list(0, 3), api.OK},
		{still(9, 4, 4, 2, found(2, 5, 9), found(0, 0, 5), found(1, 5, 5)), nil, api.ErrNone},
		{still(9, 4, 4, 1, slices.Repeat(surveys(found(1, 9, 9)), 8)...), list(0), api.OK},
		{still(9, 4, 4, 1, append(slices.Repeat(surveys(found(1, 0, 9)), 6), found(1, 4, 5), found(0, 6, 7))...), list(6, 7), api.OK},
		{poor(found(0, 0, 0)), nil, api.ErrNone},
		{poor(found(0, 0, 0), found(2, 1, 1)), nil, api.ErrNone},
		{poor(), nil, api.ErrNone},
	} {
		if got, e := bed.Clash(x.b); !slices.Equal(got, x.want) || e != x.e {
			t.Error(i, got, e)
		}
	}
}

// P4.4: surveys of one month clash if what both found cannot be.
func TestClashInGap(t *testing.T) {
	for i, x := range []struct {
		surveys []bed.Survey
		want    []int
		e       api.Errno
	}{
		{surveys(found(1, 1, 5), found(1, 3, 7), found(1, 2, 3)), list(1, 2), api.OK},
		{surveys(found(1, 3, 7), found(1, 1, 3)), list(0, 1), api.OK},
		{surveys(found(1, 3, 3)), list(0), api.OK},
		{surveys(found(1, 2, 7), found(1, 1, 3)), nil, api.ErrNone},
		{surveys(found(1, 0, 3), found(0, 1, 4), found(0, 2, 4)), list(0, 2), api.OK},
		{surveys(found(1, 2, 5), found(0, 2, 4), found(1, 3, 9), found(1, 0, 9), found(0, 0, 1)), list(1, 4), api.OK},
	} {
		doubling := still(9, 2, 2, 1, x.surveys...)
		doubling.Months[0].Growth = 100
		if got, e := bed.Clash(doubling); !slices.Equal(got, x.want) || e != x.e {
			t.Error(i, got, e)
		}
	}
}

// P4.4: the month of which the amount should be asked for.
func TestLook(t *testing.T) {
	gaps := still(20, 1, 1, 2)
	gaps.Months[0].Growth = 100
	gaps.Months[1].Spat = span(1, 1)
	for i, x := range []struct {
		b           bed.Bed
		month, many int
	}{
		{two(), 2, 23},
		{two(found(1, 21, 30)), 2, 13},
		{two(found(2, 0, 5)), 1, 9},
		{two(found(2, 0, 0)), 1, 4},
		{two(found(0, 0, 18), found(0, 18, 50)), 2, 17},
		{two(found(2, 20, 50)), 0, 3}, // the first one of three
		{gaps, 0, 3},                  // how many there are, not how far apart
		{still(120, 60, 40, 10), 0, 81},
		{still(120, 60, 40, 10, found(10, 77, 77)), 0, 1},
		{poorUnsure(), 0, 2},
		{bed.Bed{Room: 9, First: 3, Months: months(month(0, 0, span(0, 2), span(0, 0)), month(0, 0, span(0, 0), span(0, 0)))}, 1, 3},
	} {
		if month, many, e := bed.Look(x.b); month != x.month || many != x.many || e != api.OK {
			t.Error(i, month, many, e)
		}
	}
	for i, b := range noCourses() {
		if month, many, e := bed.Look(b); !zero(month, many) || e != api.ErrClash {
			t.Error(i, month, many, e)
		}
	}
}

// P4.4: the surveys of many beds.
func TestSurveysMany(t *testing.T) {
	var clashes, none, asked int
	forMany(t, 3000, func(_ *rand.Rand, b bed.Bed) {
		o := slow{b}
		all := o.clashes()
		want, e := []int(nil), api.ErrNone
		if len(all) > 0 && len(all[0]) > 0 {
			want, e = all[0], api.OK
		}
		if got, f := bed.Clash(b); !slices.Equal(got, want) || f != e {
			t.Error(b, got, f, want, e)
		}
		if len(want) > 1 {
			clashes++
		}
		month, many, f := bed.Look(b)
		if len(all) > 0 {
			none++
			if !zero(month, many) || f != api.ErrClash {
				t.Error(b, month, many, f)
			}
			return
		}
		look, most := 0, 0
		for month, amounts := range o.can(o.agreeing()) {
			if len(amounts) > most {
				look, most = month, len(amounts)
			}
		}
		if month != look || many != most || f != api.OK {
			t.Error(b, month, many, f, look, most)
		}
		if look > 0 {
			asked++
		}
	})
	if clashes < 150 || none < 500 || asked < 200 {
		t.Error("too few beds of a kind to show anything", clashes, none, asked)
	}
}
