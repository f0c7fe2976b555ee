package shut_test

import (
	"math/rand"
	"slices"
	"testing"

	"laurel/api"
	"laurel/shut"
)

// P7.2: how many truths fit, and which falls the rains have in them.
func TestCount(t *testing.T) {
	for i, x := range []struct {
		s     shut.Shore
		n     int
		falls [][]int
	}{
		{three(), 60, [][]int{{2, 3, 4, 5, 6}}},  // example 2
		{three(clean(0)), 24, [][]int{{2, 3}}},   // example 3
		{three(foul(0)), 36, [][]int{{4, 5, 6}}}, // example 3
		{three(foul(0), clean(2)), 24, [][]int{{4, 5, 6}}},
		{three(foul(0), clean(2), foul(1)), 12, [][]int{{4, 5, 6}}},
		{three(foul(2)), 12, [][]int{{4, 5, 6}}},
		{three(clean(3)), 60, [][]int{{2, 3, 4, 5, 6}}},
		{none(), 0, nil}, // example 4
		{three(foul(3)), 0, nil},
		{wet(), 288, [][]int{{1, 2, 3, 4, 5, 6}, {4, 5}}},
		{wet(clean(0)), 64, [][]int{{1, 2}, {4, 5}}},
		{wet(foul(0)), 224, [][]int{{1, 2, 3, 4, 5, 6}, {4, 5}}}, // from tide 2, or with a fall of 3
		{wet(clean(1)), 72, [][]int{{1, 2, 3, 4, 5, 6}, {4}}},
		{wet(foul(3)), 48, [][]int{{5, 6}, {4, 5}}},
		{wet(foul(2)), 288, [][]int{{1, 2, 3, 4, 5, 6}, {4, 5}}},
		{wet(clean(0), clean(1), clean(3)), 16, [][]int{{1, 2}, {4}}},
		{wet(clean(2)), 0, nil},
		{gap(), 400, [][]int{upto(10), upto(10)}},
		{gap(foul(0), clean(1)), 30, [][]int{{0, 1, 2, 5, 6, 7, 8, 9}, {0, 1, 2, 5, 6, 7, 8, 9}}},
		{gap(foul(0), foul(1)), 170, [][]int{upto(10), upto(10)}},
		{gap(clean(0), clean(1)), 90, [][]int{upto(10), upto(10)}},
		{dry(), 1, nil},
		{rained(three(), rain(1, 0, 0), rain(1, 3, 9), rain(5, 9, 9)), 84, [][]int{{0}, {3, 4, 5, 6, 7, 8, 9}, {9}}},
		{rained(three()), 12, nil},
		{rained(three(clean(0))), 12, nil},
		{rained(three(foul(0))), 0, nil},
		{drained(three()), 60, [][]int{{2, 3, 4, 5, 6}}},
		{widest(), 10000 * 72 * 72 * 72 * 72 * 72 * 72, [][]int{upto(10), upto(10), upto(10), upto(10)}},
	} {
		if n, e := shut.Count(x.s); n != x.n || e != api.OK {
			t.Error(i, n, e)
		}
		for r := range x.s.Rains {
			var want []int
			f := api.ErrClash
			if x.n > 0 {
				want, f = x.falls[r], api.OK
			}
			if got, e := shut.Falls(x.s, r); !slices.Equal(got, want) || e != f {
				t.Error(i, r, got, e)
			}
		}
	}
}

// P7.2, R1, R2: the error of a rain comes before that no truth fits.
func TestFallsErrors(t *testing.T) {
	for _, s := range []shut.Shore{three(), none(), wet(), dry(), tested(rained(three()), foul(0))} {
		many, _ := shut.Count(s)
		for _, n := range append(someOf(0, len(s.Rains)-1), 0) {
			want := api.OK
			switch {
			case !isIn(n, 0, len(s.Rains)-1):
				want = api.ErrMissing
			case many == 0:
				want = api.ErrClash
			}
			if got, e := shut.Falls(s, n); e != want || (e == api.OK) == zero(got) {
				t.Error(n, got, e)
			}
		}
	}
}

// P7.2: what is a truth, whether it fits, and which sacks are foul in it.
func TestAgrees(t *testing.T) {
	right := origins(at(0, 2), at(1, 3), at(0, 5), at(2, 1))
	for i, x := range []struct {
		s    shut.Shore
		t    shut.Truth
		is   bool
		foul []int
		e    api.Errno
	}{
		{three(), truth(list(2), right...), true, nil, api.OK},
		{three(), truth(list(3), right...), true, nil, api.OK},
		{three(), truth(list(4), right...), true, list(0, 1), api.OK},
		{three(), truth(list(6), right...), true, list(0, 1), api.OK},
		{three(), truth(list(5), at(0, 3), at(2, 3), at(0, 3), at(2, 1)), true, list(0, 2), api.OK},
		{three(), truth(list(5), at(0, 3), at(2, 3), at(0, 4), at(2, 1)), true, list(0), api.OK},
		{three(clean(0)), truth(list(3), right...), true, nil, api.OK},
		{three(clean(0)), truth(list(4), right...), false, list(0, 1), api.OK},
		{three(foul(0)), truth(list(3), right...), false, nil, api.OK},
		{three(foul(1), foul(0)), truth(list(4), right...), true, list(0, 1), api.OK},
		{three(foul(1), clean(0)), truth(list(4), right...), false, list(0, 1), api.OK},
		{three(foul(0), foul(2)), truth(list(4), right...), false, list(0, 1), api.OK},
		{none(), truth(list(4), right...), false, list(0, 1), api.OK},
		{three(), truth(list(1), right...), false, nil, api.ErrWrong},
		{three(), truth(list(7), right...), false, nil, api.ErrWrong},
		{three(), truth(nil, right...), false, nil, api.ErrWrong},
		{three(), truth(list(4, 4), right...), false, nil, api.ErrWrong},
		{three(), truth(list(4), right[:3]...), false, nil, api.ErrWrong},
		{three(), truth(list(4), append(slices.Clone(right), at(0, 0))...), false, nil, api.ErrWrong},
		{three(), truth(list(4)), false, nil, api.ErrWrong},
		{three(), truth(list(4), at(1, 2), at(1, 3), at(0, 5), at(2, 1)), false, nil, api.ErrWrong},
		{three(), truth(list(4), at(0, 4), at(1, 3), at(0, 5), at(2, 1)), false, nil, api.ErrWrong},
		{three(), truth(list(4), at(0, 1), at(1, 3), at(0, 5), at(2, 1)), false, nil, api.ErrWrong},
		{three(), truth(list(4), at(0, 2), at(1, 3), at(0, 5), at(2, 2)), false, nil, api.ErrWrong},
		{three(), truth(list(4), at(0, 2), at(0, 3), at(0, 5), at(2, 1)), false, nil, api.ErrWrong},
		{three(clean(0)), truth(list(7), right...), false, nil, api.ErrWrong},
		{dry(), truth(nil), true, nil, api.OK},
		{dry(), truth(list()), true, nil, api.OK},
		{dry(), truth(list(0)), false, nil, api.ErrWrong},
		{dry(), truth(nil, at(0, 0)), false, nil, api.ErrWrong},
		{wet(), truth(list(1, 4), at(1, 2), at(2, 2), at(0, 4), at(2, 0)), true, list(0, 2), api.OK},
		{wet(), truth(list(1, 5), at(1, 1), at(2, 2), at(1, 4), at(2, 0)), true, list(1, 2), api.OK},
		{wet(), truth(list(6, 4), at(1, 0), at(0, 2), at(0, 4), at(2, 0)), true, list(0, 1, 2, 3), api.OK},
		{wet(), truth(list(5, 6), at(1, 0), at(0, 2), at(0, 4), at(2, 0)), false, nil, api.ErrWrong},
		{wet(), truth(list(4, 5, 5), at(1, 0), at(0, 2), at(0, 4), at(2, 0)), false, nil, api.ErrWrong},
	} {
		is, e := shut.Agrees(x.s, x.t)
		foul, f := shut.FoulIn(x.s, x.t)
		if is != x.is || e != api.OK || !slices.Equal(foul, x.foul) || f != x.e {
			t.Error(i, is, e, foul, f)
		}
	}
}

// P7.2, P0.1: numbers that a truth cannot have make it none.
func TestNoTruth(t *testing.T) {
	right := truth(list(4), at(0, 2), at(1, 3), at(0, 5), at(2, 1))
	for _, n := range outside(0, 9) {
		for k := range 4 {
			wrong := []shut.Truth{truth(list(n), right.From...), truth(right.Falls, right.From...), truth(right.Falls, right.From...)}
			for i := range wrong {
				wrong[i].From = slices.Clone(right.From)
			}
			wrong[1].From[k].Bed, wrong[2].From[k].Tide = n, n
			for i, x := range wrong {
				is, e := shut.Agrees(three(), x)
				foul, f := shut.FoulIn(three(), x)
				if is || e != api.OK || !zero(foul) || f != api.ErrWrong {
					t.Error(i, n, k, is, e, foul, f)
				}
			}
		}
	}
}

// sameTruth reports whether two truths are the same.
func sameTruth(a, b shut.Truth) bool {
	return slices.Equal(a.Falls, b.Falls) && slices.Equal(a.From, b.From)
}

// bent returns a truth with a change, which may have made it none.
func bent(r *rand.Rand, x shut.Truth) shut.Truth {
	x = truth(slices.Clone(x.Falls), slices.Clone(x.From)...)
	switch i := r.Intn(16); {
	case i == 0 && len(x.Falls) > 0:
		x.Falls = x.Falls[1:]
	case i == 1:
		x.Falls = append(x.Falls, r.Intn(3))
	case i == 2 && len(x.From) > 0:
		x.From = x.From[1:]
	case i == 3:
		x.From = append(x.From, at(0, 0))
	case i == 4 && len(x.Falls) > 0:
		x.Falls[r.Intn(len(x.Falls))] += r.Intn(5) - 2
	case i == 5 && len(x.From) > 0:
		x.From[r.Intn(len(x.From))].Bed += r.Intn(3) - 1
	case i == 6 && len(x.From) > 0:
		x.From[r.Intn(len(x.From))].Tide += r.Intn(3) - 1
	}
	return x
}

// P7.2: truths of many shores, how many there are, and the falls in them.
func TestTruthsMany(t *testing.T) {
	var several, clash, right, unfit, wrong int
	forMany(t, 3000, func(r *rand.Rand, s shut.Shore) {
		o := slow{s}
		all, fitting := o.truths(), o.fitting()
		if n, e := shut.Count(s); n != len(fitting) || e != api.OK {
			t.Error(s, n, len(fitting), e)
		}
		for i := range s.Rains {
			want := slices.DeleteFunc(upto(10), func(fall int) bool {
				return !slices.ContainsFunc(fitting, func(x shut.Truth) bool { return x.Falls[i] == fall })
			})
			got, e := shut.Falls(s, i)
			if !slices.Equal(got, want) || (e == api.OK) != (len(fitting) > 0) || e != api.OK && e != api.ErrClash {
				t.Error(s, i, got, want, e)
			}
		}
		for range 6 {
			x := bent(r, o.truth(r))
			is, e := shut.Agrees(s, x)
			foul, f := shut.FoulIn(s, x)
			isTruth := slices.ContainsFunc(all, func(y shut.Truth) bool { return sameTruth(x, y) })
			fits := slices.ContainsFunc(fitting, func(y shut.Truth) bool { return sameTruth(x, y) })
			if is != fits || e != api.OK || (f == api.OK) != isTruth || f != api.OK && f != api.ErrWrong {
				t.Error(s, x, is, fits, isTruth, e, f)
			}
			var want []int
			if isTruth {
				want = o.foulIn(x)
			}
			if !slices.Equal(foul, want) {
				t.Error(s, x, foul, want)
			}
			switch {
			case !isTruth:
				wrong++
			case !fits:
				unfit++
			default:
				right++
			}
		}
		if len(fitting) == 0 {
			clash++
		} else if len(fitting) < len(all) {
			several++
		}
	})
	if several < 200 || clash < 200 || right < 1000 || unfit < 1000 || wrong < 1000 {
		t.Error("too few shores of a kind to show anything", several, clash, right, unfit, wrong)
	}
}
