package shut_test

import (
	"math/rand"
	"slices"
	"testing"

	"laurel/api"
	"laurel/shut"
)

// P7.4: a test more is the last one, whether the truths fit it or not; the shore is the same otherwise.
func TestWith(t *testing.T) {
	for i, x := range []struct {
		s    shut.Shore
		more shut.Test
		e    api.Errno
	}{
		{three(), foul(1), api.OK},
		{three(), clean(3), api.OK},
		{three(foul(1)), foul(0), api.OK},
		{three(foul(1)), foul(1), api.ErrAgain},
		{three(foul(1)), clean(1), api.ErrAgain},
		{three(clean(0), foul(1), clean(2)), clean(2), api.ErrAgain},
		{three(clean(0), foul(1), clean(2)), foul(3), api.OK},
		{three(), clean(4), api.ErrMissing},
		{three(foul(1)), foul(-1), api.ErrMissing},
		{three(foul(1)), foul(3), api.OK}, // no truth fits then
		{none(), clean(2), api.OK},
		{none(), clean(0), api.ErrAgain},
		{wet(clean(2)), clean(0), api.OK},
		{dry(), clean(0), api.ErrMissing},
	} {
		got, e := shut.With(x.s, x.more)
		want := tested(x.s, x.more)
		if x.e != api.OK {
			want = shut.Shore{}
		}
		if !sameShore(got, want) || e != x.e {
			t.Error(i, got, e)
		}
	}
	for _, n := range outside(0, 3) {
		for _, s := range []shut.Shore{three(), none()} {
			if got, e := shut.With(s, foul(n)); e != api.ErrMissing || !zero(got) {
				t.Error(n, got, e)
			}
		}
	}
}

// P7.4: whether listed tests are agreed, in any order.
func TestAgree(t *testing.T) {
	many := three(foul(1), clean(2), clean(0), foul(3))
	for i, x := range []struct {
		s     shut.Shore
		tests []int
		want  bool
	}{
		{none(), list(0), true},
		{none(), list(1), true},
		{none(), list(0, 1), false}, // example 4
		{none(), list(1, 0), false},
		{none(), nil, true},
		{none(), list(), true},
		{many, list(0, 1), true},
		{many, list(2, 1), true},
		{many, list(2, 0), false},
		{many, list(1, 2, 0), false},
		{many, list(3), false},
		{many, list(1, 3), false},
		{many, nil, true},
		{three(), nil, true},
		{dry(), nil, true},
		{wet(clean(0), clean(1), clean(3)), list(2, 0, 1), true},
		{wet(clean(0), foul(3), clean(1)), list(2, 0), true},
		{wet(clean(0), foul(3), clean(1)), list(1, 2), true},
		{wet(clean(0), foul(3), clean(1)), list(0, 1), false},
	} {
		if got, e := shut.Agree(x.s, x.tests); got != x.want || e != api.OK {
			t.Error(i, got, e)
		}
	}
}

// P7.4, R1, R2: a test that there is not comes before one that is listed twice, wherever they are.
func TestAgreeErrors(t *testing.T) {
	for i, x := range []struct {
		tests []int
		e     api.Errno
	}{
		{list(2), api.ErrMissing},
		{list(-1), api.ErrMissing},
		{list(0, 1, 2), api.ErrMissing},
		{list(0, 0, 2), api.ErrMissing},
		{list(2, 2), api.ErrMissing},
		{list(0, 0), api.ErrAgain},
		{list(1, 0, 1), api.ErrAgain},
		{make([]int, 1000), api.ErrAgain},
	} {
		if got, e := shut.Agree(none(), x.tests); got || e != x.e {
			t.Error(i, got, e)
		}
	}
	for _, n := range outside(0, 1) {
		if got, e := shut.Agree(none(), list(1, n)); got || e != api.ErrMissing {
			t.Error(n, got, e)
		}
	}
	if got, e := shut.Agree(three(), list(0)); got || e != api.ErrMissing {
		t.Error(got, e)
	}
}

// jam is a shore where one rain closes bed i from a fall of 3 times i and 1 on, with a sack from each bed, and some tests.
func jam(tests ...shut.Test) shut.Shore {
	s := shut.Shore{Beds: 3, Tides: 1, Rains: []shut.Rain{rain(0, 0, 9)}, Tests: tests}
	for i := range 3 {
		s.Drains = append(s.Drains, drain(1+3*i, 1, i))
		s.Sacks = append(s.Sacks, sack(0, 0, i))
	}
	return s
}

// knot is a shore where it takes all three tests to clash: two rains, one of which must have closed bed 0, and so bed 1 or bed 2.
func knot() shut.Shore {
	return shut.Shore{
		Beds: 3, Tides: 2,
		Drains: []shut.Drain{drain(5, 1, 0), drain(5, 1, 1), drain(5, 1, 2)},
		Rains:  []shut.Rain{rain(0, 0, 9), rain(1, 0, 9)},
		Sacks:  []shut.Sack{sack(0, 1, 0), sack(0, 0, 1), sack(1, 1, 2)},
		Tests:  []shut.Test{clean(2), foul(0), clean(1)},
	}
}

// P7.4: as few tests as can be that are not agreed, the first such list.
func TestClash(t *testing.T) {
	for i, x := range []struct {
		s    shut.Shore
		want []int
		e    api.Errno
	}{
		{three(), nil, api.ErrNone},
		{three(clean(0), clean(1), clean(2)), nil, api.ErrNone},
		{none(), list(0, 1), api.OK}, // example 4
		{three(foul(1), clean(2), clean(0)), list(0, 2), api.OK},
		{three(clean(2), foul(1), clean(0)), list(1, 2), api.OK},
		{three(foul(1), clean(0), foul(3)), list(2), api.OK}, // fewer tests come before an earlier list
		{three(foul(3), foul(1), clean(0)), list(0), api.OK},
		{three(foul(2), clean(1), clean(0)), list(0, 2), api.OK},
		{wet(clean(2)), list(0), api.OK},
		{wet(clean(0), clean(1), foul(3)), list(0, 2), api.OK},
		{dry(), nil, api.ErrNone},
		{tested(rained(wet()), clean(1), foul(2), foul(0)), list(1), api.OK},
		{jam(foul(2), clean(1), clean(0)), list(0, 1), api.OK}, // of three pairs, the first
		{jam(clean(0), foul(1), foul(2)), list(0, 1), api.OK},
		{jam(clean(1), foul(2), clean(0)), list(0, 1), api.OK},
		{jam(clean(1), foul(0), foul(2)), list(0, 2), api.OK},
		{jam(foul(1), foul(0), clean(2)), nil, api.ErrNone},
		{knot(), list(0, 1, 2), api.OK},
	} {
		if got, e := shut.Clash(x.s); !slices.Equal(got, x.want) || e != x.e {
			t.Error(i, got, e)
		}
	}
}

// P7.4: tests of many shores, and the fewest that are not agreed.
func TestTestsMany(t *testing.T) {
	var met [5]int
	forMany(t, 3000, func(r *rand.Rand, s shut.Shore) {
		if len(s.Sacks) > 2 && r.Intn(2) == 0 { // tests of all sacks clash more often
			s.Tests = nil
			for _, k := range r.Perm(len(s.Sacks)) {
				s.Tests = append(s.Tests, shut.Test{Sack: k, Foul: r.Intn(2) == 0})
			}
		}
		agreed := slow{s}.agreed()
		for range 3 {
			tests := r.Perm(len(s.Tests))[:r.Intn(len(s.Tests)+1)]
			if got, e := shut.Agree(s, tests); got != agreed(tests) || e != api.OK {
				t.Error(s, tests, got, e)
			}
		}
		want, found := first(len(s.Tests), func(l []int) bool { return !agreed(l) })
		got, e := shut.Clash(s)
		if !slices.Equal(got, want) || (e == api.OK) != found || !found && e != api.ErrNone {
			t.Error(s, got, want, e)
		}
		met[len(got)]++
	})
	if met[0] < 100 || met[1] < 100 || met[2] < 100 {
		t.Error("too few tests of a kind to show anything", met)
	}
}
