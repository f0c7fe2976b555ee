package boil_test

import (
	"math/rand"
	"slices"
	"testing"

	"laurel/api"
	"laurel/boil"
)

// P8.5: the first of the smallest false sets, and the weighings that are in none of these.
func TestFewest(t *testing.T) {
	for i, x := range []struct {
		h             boil.House
		want, trusted []int
	}{
		{four(), list(0, 2), nil}, // example 3
		{two(), nil, list(0, 1)},
		{rising(), nil, upto(5)},
		{house(1, 0), nil, nil},
		{row(5), nil, list(0)},
		{row(5, 6), list(0), nil},
		{row(6, 5), list(0), nil},
		{row(5, 5, 6), list(2), list(0, 1)},
		{row(6, 5, 5), list(0), list(1, 2)},
		{row(4, 5, 6), list(0, 1), nil},
		{row(5, 6, 5, 6, 6), list(0, 2), list(1, 3, 4)},
		{row(5, 6, 6, 5), list(0, 3), nil}, // before 1 and 2
		{row(7, 5, 6, 5), list(0, 2), list(1, 3)},
		{months(2, 6, 5, 4), list(0, 1), nil},
		{months(2, 4, 6, 5), list(1), list(0)},
		{months(2, 4, 7, 5, 6), list(2), list(0, 1, 3)}, // not 1 and 3, which are more
		{widest(), list(0, 1, 2, 3, 4, 6, 7, 8, 9, 10, 13), list(12)},
		{months(1, 6, 5, 7), list(1), list(0, 2)},
		{knot(), list(0, 1), nil},
		{house(3, 1, weighed(0, 1, 1, 9, 9), weighed(2, 1, 1, 2, 2)), nil, list(0, 1)},
		{row(1, 2, 3, 4, 5, 6, 7, 8, 9, 10, 11, 12, 13, 14), upto(13), nil},
		{row(1, 1, 1, 1, 1, 1, 1, 2, 2, 2, 2, 2, 2, 2), upto(7), nil},
		{row(2, 2, 2, 2, 2, 2, 1, 1, 1, 1, 1, 1, 1, 1), upto(6), list(6, 7, 8, 9, 10, 11, 12, 13)},
		{row(3, 2, 1, 3, 2, 1, 3, 2, 1), list(0, 1, 3, 4, 6, 7), nil},
		{row(9, 9, 1, 1, 1, 9), list(0, 1, 5), nil},
		{row(1, 9, 9, 9, 1, 1), list(0, 4, 5), nil},
	} {
		few, e := boil.Fewest(x.h)
		trusted, f := boil.Trusted(x.h)
		if !slices.Equal(few, x.want) || !slices.Equal(trusted, x.trusted) || e != api.OK || f != api.OK {
			t.Error(i, few, trusted, e, f)
		}
	}
}

// smallestSets holds the smallest sets of a house against those of slow, and returns how many these are, and of how many weighings.
func smallestSets(t *testing.T, h boil.House, isFalse func(set []int) bool) (many, size int) {
	t.Helper()
	o := slow{h}
	sets := o.falseSets(isFalse)
	few, e := boil.Fewest(h)
	if !slices.Equal(few, sets[0]) || e != api.OK {
		t.Error(h, few, sets, e)
	}
	trusted, e := boil.Trusted(h)
	if !slices.Equal(trusted, o.trusted(sets)) || e != api.OK {
		t.Error(h, trusted, sets, e)
	}
	proof, e := boil.Proof(h)
	if !isProof(h, proof, len(few)) || e != api.OK {
		t.Error(h, proof, few, e)
	}
	return len(sets), len(few)
}

// P8.5: the smallest sets of many houses, by the truths.
func TestFewestMany(t *testing.T) {
	var sizes [6]int
	var several int
	forMany(t, 1500, func(_ *rand.Rand, h boil.House) {
		many, size := smallestSets(t, h, (slow{h}).falseByTruths())
		sizes[size]++
		if many > 1 {
			several++
		}
	})
	if sizes[0] < 300 || sizes[1] < 300 || sizes[2] < 100 || several < 200 {
		t.Error("too few houses of a kind to show anything", sizes, several)
	}
}

// P8.5: the smallest sets of many houses with many weighings, by the pairs that clash.
func TestFewestLarge(t *testing.T) {
	var sizes [15]int
	var several int
	forManyLarge(t, 120, func(_ *rand.Rand, h boil.House) {
		many, size := smallestSets(t, h, (slow{h}).falseByPairs())
		sizes[size]++
		if many > 2 {
			several++
		}
	})
	large := 0
	for _, n := range sizes[5:] {
		large += n
	}
	if large < 30 || several < 30 {
		t.Error("too few houses of a kind to show anything", sizes, several)
	}
}
