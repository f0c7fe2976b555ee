package boil_test

import (
	"math/rand"
	"slices"
	"testing"

	"laurel/api"
	"laurel/boil"
)

// knot is a house whose weighing 0 clashes with 2 and 3, and 1 with 2 alone: in a proof of two pairs 0 leaves 2 to 1.
func knot() boil.House {
	return house(2, 1, weighed(0, 10, 10, 8, 8), weighed(1, 10, 10, 8, 8), weighed(1, 10, 10, 7, 7), weighed(0, 10, 10, 6, 7))
}

// P8.3: the first pair that clashes, by A, then by B.
func TestClash(t *testing.T) {
	for i, x := range []struct {
		h    boil.House
		want boil.Pair
	}{
		{four(), pair(0, 1)}, // example 1
		{house(5, 2, four().Weighings[2:]...), pair(1, 0)}, // example 2
		{row(5, 6), pair(1, 0)},
		{row(6, 5), pair(0, 1)},
		{row(5, 4, 6), pair(0, 1)},
		{row(5, 6, 4), pair(0, 2)},
		{row(5, 5, 7, 6), pair(2, 0)},
		{row(6, 5, 4), pair(0, 1)},
		{row(6, 6, 4, 5), pair(0, 2)},
		{months(1, 6, 5, 7), pair(0, 1)},
		{months(1, 5, 6, 7), pair(2, 1)},
		{months(2, 5, 6, 4), pair(0, 2)},
		{months(0, 4, 6, 5), pair(1, 0)},
		{widest(), pair(0, 1)},
	} {
		if got, e := boil.Clash(x.h); got != x.want || e != api.OK {
			t.Error(i, got, e)
		}
	}
	for i, h := range []boil.House{
		two(), rising(), house(1, 0), row(5), row(5, 5, 5), months(1, 5, 6, 4), months(2, 5, 5, 5), months(0, 7, 6, 6), pointed(),
		house(3, 1, weighed(0, 1, 1, 9, 9), weighed(2, 1, 1, 2, 2)),                         // neither month lies under the other one
		house(1, 0, weighed(0, 3, 4, 1, 2), weighed(0, 6, 6, 1, 3), weighed(0, 2, 2, 1, 1)), // all of them reach 1/2
	} {
		if got, e := boil.Clash(h); got != pair(0, 0) || e != api.ErrNone {
			t.Error(i, got, e)
		}
	}
}

// P8.3: weighings whose ratios are next to each other clash, and those that share just one do not.
func TestClashAtEnds(t *testing.T) {
	for i, x := range []struct {
		a, b boil.Weighing
		is   bool
	}{
		{weighed(0, 1000, 1000, 501, 600), weighed(1, 2, 2, 1, 1), true},
		{weighed(0, 1000, 1000, 500, 600), weighed(1, 2, 2, 1, 1), false},
		{weighed(0, 998, 998, 998, 998), weighed(1, 1000, 1000, 999, 999), true},
		{weighed(0, 998, 999, 998, 998), weighed(1, 1000, 1000, 999, 999), false}, // 998/999 is less than 999/1000
		{weighed(0, 3, 3, 1, 1), weighed(1, 999, 999, 333, 333), false},
		{weighed(0, 3, 3, 1, 1), weighed(1, 1000, 1000, 333, 333), true},
		{weighed(0, 10, 20, 10, 20), weighed(1, 20, 40, 5, 10), false},
		{weighed(0, 10, 19, 10, 20), weighed(1, 20, 40, 5, 10), true},
	} {
		got, e := boil.Clash(house(2, 1, x.a, x.b))
		want := api.ErrNone
		if x.is {
			want = api.OK
		}
		if e != want || x.is && got != pair(0, 1) {
			t.Error(i, got, e)
		}
		if got, e := boil.Clash(house(2, 1, x.b, x.a)); e != want || x.is && got != pair(1, 0) {
			t.Error(i, got, e)
		}
	}
}

// P8.3: pairs of many houses, which clash just if no truth has all weighings true.
func TestClashMany(t *testing.T) {
	var yes, no int
	forMany(t, 1500, func(_ *rand.Rand, h boil.House) {
		o := slow{h}
		all := o.clashes()
		got, e := boil.Clash(h)
		if len(all) == 0 {
			no++
			if got != pair(0, 0) || e != api.ErrNone || len(o.agreeing()) == 0 {
				t.Error(h, got, e)
			}
			return
		}
		yes++
		if got != all[0] || e != api.OK || len(o.agreeing()) > 0 {
			t.Error(h, got, e)
		}
	})
	if yes < 300 || no < 300 {
		t.Error("too few houses of a kind to show anything", yes, no)
	}
}

// P8.5: what a proof is, pair by pair.
func TestProves(t *testing.T) {
	falls, valley := months(2, 6, 5, 4), months(1, 6, 5, 7)
	for i, x := range []struct {
		h    boil.House
		some []boil.Pair
		n    int
		e    api.Errno
	}{
		{four(), pairs(pair(0, 1), pair(3, 2)), 2, api.OK}, // example 3
		{four(), pairs(pair(3, 2), pair(0, 1)), 2, api.OK},
		{four(), pairs(pair(3, 2)), 1, api.OK},
		{four(), pairs(), 0, api.OK},
		{four(), nil, 0, api.OK},
		{house(1, 0), nil, 0, api.OK},
		{falls, pairs(pair(0, 1), pair(1, 2)), 2, api.OK}, // an A may be the B of another pair
		{falls, pairs(pair(1, 2), pair(0, 1)), 2, api.OK},
		{falls, pairs(pair(0, 2)), 1, api.OK},
		{valley, pairs(pair(2, 1)), 1, api.OK},
		{knot(), pairs(pair(0, 2), pair(1, 3)), 0, api.ErrWrong}, // month 1 does not lie under month 0
		{knot(), pairs(pair(0, 3), pair(1, 2)), 2, api.OK},
		{four(), pairs(pair(1, 0)), 0, api.ErrWrong}, // the other way round
		{four(), pairs(pair(0, 2)), 0, api.ErrWrong},
		{four(), pairs(pair(0, 0)), 0, api.ErrWrong},
		{four(), pairs(pair(0, 1), pair(0, 0)), 0, api.ErrWrong}, // also an A again
		{four(), pairs(pair(0, 1), pair(2, 1)), 0, api.ErrWrong}, // also a B again
		{two(), pairs(pair(0, 1)), 0, api.ErrWrong},
		{valley, pairs(pair(0, 2)), 0, api.ErrWrong},
		{four(), pairs(pair(0, 1), pair(0, 1)), 0, api.ErrAgain},
		{four(), pairs(pair(0, 1), pair(3, 2), pair(0, 1)), 0, api.ErrAgain},
		{falls, pairs(pair(0, 1), pair(0, 2)), 0, api.ErrAgain},
		{falls, pairs(pair(0, 2), pair(1, 2)), 0, api.ErrAgain},
		{falls, slices.Repeat(pairs(pair(0, 1)), 1000), 0, api.ErrAgain},
		{falls, pairs(pair(0, 2), pair(1, 2), pair(9, 9)), 0, api.ErrAgain}, // the first pair with an error decides
		{falls, pairs(pair(0, 2), pair(2, 1), pair(1, 2)), 0, api.ErrWrong},
		{falls, pairs(pair(2, 1), pair(3, 1)), 0, api.ErrWrong},
		{falls, pairs(pair(0, 2), pair(3, 2), pair(0, 2)), 0, api.ErrMissing},
		{falls, pairs(pair(3, 2), pair(2, 1)), 0, api.ErrMissing},
		{house(1, 0), pairs(pair(0, 0)), 0, api.ErrMissing},
	} {
		if n, e := boil.Proves(x.h, x.some); n != x.n || e != x.e {
			t.Error(i, n, e)
		}
	}
}

// P8.5, R2: pairs of weighings that there are not.
func TestProvesMissing(t *testing.T) {
	for _, n := range outside(0, 3) {
		for _, p := range pairs(pair(n, 0), pair(0, n), pair(n, 1), pair(3, n), pair(n, n)) {
			for _, some := range [][]boil.Pair{pairs(p), pairs(pair(0, 1), p), pairs(p, p), pairs(p, pair(1, 0))} {
				if got, e := boil.Proves(four(), some); got != 0 || e != api.ErrMissing {
					t.Error(some, got, e)
				}
			}
		}
	}
}

// P8.5: pairs of many houses.
func TestProvesMany(t *testing.T) {
	kinds := map[api.Errno]int{}
	forManyLarge(t, 3000, func(r *rand.Rand, h boil.House) {
		o := slow{h}
		some := o.clashes()
		r.Shuffle(len(some), func(i, k int) { some[i], some[k] = some[k], some[i] })
		some = some[:min(len(some), r.Intn(4))]
		if r.Intn(4) == 0 {
			some = append(some, pair(r.Intn(len(h.Weighings)+1), r.Intn(len(h.Weighings)+1)))
		}
		n, e := boil.Proves(h, some)
		if want, f := o.proves(some); n != want || e != f {
			t.Error(h, some, n, e, want, f)
		}
		kinds[e]++
	})
	if kinds[api.OK] < 500 || kinds[api.ErrMissing] < 50 || kinds[api.ErrWrong] < 100 || kinds[api.ErrAgain] < 100 {
		t.Error("too few pairs of a kind to show anything", kinds)
	}
}

// isProof reports whether pairs are a proof that has so many of them, in the order of A.
func isProof(h boil.House, proof []boil.Pair, many int) bool {
	n, e := boil.Proves(h, proof)
	want, f := (slow{h}).proves(proof)
	return n == many && want == many && e == api.OK && f == api.OK && slices.IsSortedFunc(proof, byA)
}

// P8.5: proofs with as many pairs as must be false.
func TestProof(t *testing.T) {
	for i, x := range []struct {
		h    boil.House
		many int
	}{
		{four(), 2}, // example 3
		{two(), 0},
		{rising(), 0},
		{house(1, 0), 0},
		{row(5, 5, 6), 1},
		{row(6, 5, 5), 1},
		{row(4, 5, 6), 2},
		{row(5, 6, 5, 6, 6), 2},
		{row(1, 2, 3, 4, 5, 6, 7, 8, 9, 10, 11, 12, 13, 14), 13},
		{row(14, 13, 12, 11, 10, 9, 8, 7, 6, 5, 4, 3, 2, 1), 13},
		{row(1, 1, 1, 1, 1, 1, 1, 2, 2, 2, 2, 2, 2, 2), 7},
		{row(2, 2, 2, 2, 2, 2, 2, 2, 1, 1, 1, 1, 1, 1), 6},
		{row(3, 2, 1, 3, 2, 1, 3, 2, 1), 6},
		{months(2, 6, 5, 4), 2},
		{months(1, 6, 5, 7), 1},
		{knot(), 2},
		{widest(), 11},
	} {
		if got, e := boil.Proof(x.h); !isProof(x.h, got, x.many) || e != api.OK {
			t.Error(i, got, e)
		}
	}
}
