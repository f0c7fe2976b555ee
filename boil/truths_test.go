package boil_test

import (
	"math/rand"
	"slices"
	"testing"

	"laurel/api"
	"laurel/boil"
)

// P8.2: which ratios are a truth, and which weighings are not true in it.
func TestTruth(t *testing.T) {
	for i, x := range []struct {
		h     boil.House
		truth []api.Ratio
		is    bool
		wrong []int
	}{
		{four(), ratios(1, 10, 1, 10, 1, 4, 1, 4, 1, 4), true, list(1, 2)},
		{four(), ratios(8, 100, 9, 100, 6, 25, 24, 100, 1, 5), true, list(0, 3)},
		{four(), ratios(9, 100, 9, 100, 11, 40, 11, 40, 11, 40), true, list(0, 2)},
		{four(), ratios(99999, 1000000, 99999, 1000000, 1, 5, 1, 5, 1, 5), true, list(0, 1, 3)}, // a little less than 1/10
		{four(), ratios(1, 10, 1, 10, 1, 5, 1, 5, 1, 5), true, list(1, 3)},
		{four(), ratios(12, 100, 12, 100, 1, 5, 1, 5, 1, 5), true, list(1, 3)},
		{four(), ratios(120001, 1000000, 120001, 1000000, 1, 5, 1, 5, 1, 5), true, list(0, 1, 3)}, // a little more than 3/25
		{four(), ratios(1, 1000000, 1, 1000000, 1000000, 1, 1, 1, 1, 1), true, list(0, 1, 2, 3)},
		{four(), ratios(1, 10, 9, 100, 1, 4, 1, 4, 1, 4), false, nil},  // falls before the peak
		{four(), ratios(1, 10, 1, 4, 24, 100, 1, 5, 1, 5), false, nil}, // at the peak
		{four(), ratios(1, 10, 1, 10, 1, 4, 26, 100, 1, 4), false, nil},
		{four(), ratios(1, 10, 1, 10, 1, 4, 1, 5, 1, 4), false, nil}, // rises behind it
		{four(), ratios(9, 10, 1, 10, 2, 10, 1, 10, 9, 10), false, nil},
		{four(), ratios(2, 20, 3, 30, 4, 40, 5, 50, 6, 60), true, list(1, 2, 3)}, // not in lowest terms
		{two(), ratios(2, 25, 2, 25, 1, 4, 1, 4, 1, 4), true, nil},
		{house(3, 0), ratios(3, 1, 2, 1, 1, 1), true, nil},
		{house(3, 0), ratios(1, 1, 2, 1, 1, 1), false, nil},
		{house(3, 0), ratios(2, 1, 1, 1, 2, 1), false, nil},
		{house(3, 2), ratios(1, 1, 2, 1, 3, 1), true, nil},
		{house(3, 2), ratios(1, 1, 2, 1, 1, 1), false, nil},
		{house(3, 2), ratios(2, 1, 1, 1, 2, 1), false, nil},
		{house(2, 1), ratios(999998, 999999, 999999, 1000000), true, nil}, // the first is less by one of a million millions
		{house(2, 1), ratios(999999, 1000000, 999998, 999999), false, nil},
		{house(2, 0), ratios(1000000, 1, 1, 1000000), true, nil},
		{house(2, 1), ratios(1000000, 1000000, 1, 1), true, nil},
		{row(5, 6, 5), ratios(1, 2), true, list(1)},
		{row(5, 6, 5), ratios(500000, 1000000), true, list(1)},
		{row(5, 6, 5), ratios(6, 10), true, list(0, 2)},
		{row(5, 6, 5), ratios(500001, 1000000), true, list(0, 1, 2)},
	} {
		is, e := boil.Truth(x.h, x.truth)
		if is != x.is || e != api.OK {
			t.Error(i, is, e)
		}
		want := api.OK
		if !x.is {
			want = api.ErrWrong
		}
		if wrong, e := boil.False(x.h, x.truth); !slices.Equal(wrong, x.wrong) || e != want {
			t.Error(i, wrong, e)
		}
	}
}

// P8.2, R1, R2: another number of ratios comes before a number that is not allowed, and this before that they are no truth.
func TestTruthErrors(t *testing.T) {
	right, back := ratios(1, 10, 1, 10, 1, 4, 1, 4, 1, 4), ratios(1, 4, 1, 10, 1, 4, 1, 4, 1, 5)
	ask := func(truth []api.Ratio, want api.Errno) {
		t.Helper()
		is, e := boil.Truth(four(), truth)
		wrong, f := boil.False(four(), truth)
		if is || !zero(wrong) || e != want || f != want {
			t.Error(truth, is, wrong, e, f)
		}
	}
	for _, truth := range [][]api.Ratio{nil, {}, right[:1], right[:4], append(right[:5:5], right[4]), make([]api.Ratio, 6), make([]api.Ratio, 1000)} {
		ask(truth, api.ErrMany)
	}
	for _, n := range outside(1, 1000000) {
		for month := range 5 {
			for _, truth := range [][]api.Ratio{right, back} {
				num, den := slices.Clone(truth), slices.Clone(truth)
				num[month].Num, den[month].Den = n, n
				ask(num, api.ErrLimit)
				ask(den, api.ErrLimit)
				ask(num[:4], api.ErrMany)
			}
		}
	}
	if is, e := boil.Truth(four(), back); is || e != api.OK {
		t.Error(is, e)
	}
	if wrong, e := boil.False(four(), back); !zero(wrong) || e != api.ErrWrong {
		t.Error(wrong, e)
	}
}

// anyTruth returns ratios of all months of a house, most of which are a truth.
func anyTruth(r *rand.Rand, h boil.House) []api.Ratio {
	ends := (slow{h}).ends()
	var out []api.Ratio
	for range h.Months {
		x := ends[r.Intn(len(ends))]
		if r.Intn(4) == 0 {
			x = ratio(1+r.Intn(30), 1+r.Intn(20))
		}
		out = append(out, x)
	}
	if r.Intn(4) > 0 {
		slices.SortFunc(out[:h.Peak+1], inOrder)
		slices.SortFunc(out[h.Peak:], func(a, b api.Ratio) int { return inOrder(b, a) })
		slices.SortFunc(out[:h.Peak+1], inOrder)
	}
	return out
}

// P8.2: ratios of many houses.
func TestTruthMany(t *testing.T) {
	var yes, no, some int
	forMany(t, 2000, func(r *rand.Rand, h boil.House) {
		for range 4 {
			truth := anyTruth(r, h)
			want := (slow{h}).isTruth(truth)
			is, e := boil.Truth(h, truth)
			if is != want || e != api.OK {
				t.Error(h, truth, is, e)
			}
			wrong, e := boil.False(h, truth)
			if !want {
				no++
				if e != api.ErrWrong || !zero(wrong) {
					t.Error(h, truth, wrong, e)
				}
				continue
			}
			yes++
			if !slices.Equal(wrong, (slow{h}).falseIn(truth)) || e != api.OK {
				t.Error(h, truth, wrong, e)
			}
			if len(wrong) > 0 && len(wrong) < len(h.Weighings) {
				some++
			}
		}
	})
	if yes < 1000 || no < 500 || some < 500 {
		t.Error("too few truths of a kind to show anything", yes, no, some)
	}
}

// P8.3: truths in which all weighings are true.
func TestShown(t *testing.T) {
	for i, h := range []boil.House{two(), rising(), row(5, 5, 5), house(12, 5), house(1, 0), months(1, 1, 2, 1), months(0, 3, 2, 1), months(3, 1, 1, 2, 3),
		house(3, 1, weighed(0, 1000, 1000, 1, 1), weighed(2, 999, 1000, 1, 2)), house(3, 0, weighed(2, 1, 1, 1000, 1000)), house(3, 2, weighed(2, 1000, 1000, 1, 1))} {
		truth, e := boil.Shown(h)
		if e != api.OK || !isShown(h, truth) {
			t.Error(i, truth, e)
		}
	}
	for i, h := range []boil.House{four(), widest(), row(5, 6), months(1, 2, 1, 1), months(1, 1, 1, 2)} {
		if truth, e := boil.Shown(h); e != api.ErrClash || !zero(truth) {
			t.Error(i, truth, e)
		}
	}
}

// isShown reports whether ratios are a truth in which all weighings are true, in lowest terms.
func isShown(h boil.House, truth []api.Ratio) bool {
	wrong, e := boil.False(h, truth)
	lowest := !slices.ContainsFunc(truth, func(r api.Ratio) bool { return r != reduced(r) })
	return e == api.OK && len(wrong) == 0 && lowest && (slow{h}).isTruth(truth) && len((slow{h}).falseIn(truth)) == 0
}

// P8.3: truths of many houses.
func TestShownMany(t *testing.T) {
	var yes, no int
	forMany(t, 1500, func(_ *rand.Rand, h boil.House) {
		truth, e := boil.Shown(h)
		if len((slow{h}).agreeing()) == 0 {
			no++
			if e != api.ErrClash || !zero(truth) {
				t.Error(h, truth, e)
			}
			return
		}
		yes++
		if e != api.OK || !isShown(h, truth) {
			t.Error(h, truth, e)
		}
	})
	if yes < 300 || no < 300 {
		t.Error("too few houses of a kind to show anything", yes, no)
	}
}
