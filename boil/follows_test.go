package boil_test

import (
	"math/rand"
	"reflect"
	"slices"
	"testing"

	"laurel/api"
	"laurel/boil"
)

// without returns a house without some weighings, as the package does it.
func without(t *testing.T, h boil.House, gone []int) boil.House {
	t.Helper()
	out, e := boil.Without(h, gone)
	if e != api.OK {
		t.Error(h, gone, e)
	}
	return out
}

// agree reports whether all weighings of a house do.
func agree(t *testing.T, h boil.House) bool {
	t.Helper()
	_, e := boil.Clash(h)
	if e != api.OK && e != api.ErrNone {
		t.Error(h, e)
	}
	return e == api.ErrNone
}

// P8.8, P0.9: without the smallest set all others agree, and without fewer they do not, as the pairs prove.
func TestMeatAgreesOrIsNamed(t *testing.T) {
	var sets, fewer int
	ask := func(r *rand.Rand, h boil.House) {
		few, e := boil.Fewest(h)
		left := without(t, h, few)
		shown, g := boil.Shown(left)
		if !agree(t, left) || !isShown(left, shown) || e != api.OK || g != api.OK {
			t.Error(h, few, shown, e, g)
		}
		proof, e := boil.Proof(h)
		if n, g := boil.Proves(h, proof); n != len(few) || e != api.OK || g != api.OK {
			t.Error(h, few, proof, n, e, g)
		}
		if len(few) == 0 {
			return
		}
		sets++
		for range 20 {
			some := r.Perm(len(h.Weighings))[:r.Intn(len(few))]
			if agree(t, without(t, h, some)) {
				t.Error(h, few, some)
			}
			fewer++
		}
	}
	forMany(t, 800, ask)
	forManyLarge(t, 200, ask)
	if sets < 500 || fewer < 5000 {
		t.Error("too few sets to show anything", sets, fewer)
	}
}

// P8.8: if all weighings agree, none is in Fewest, and all are trusted; if not, some are named.
func TestAllAgree(t *testing.T) {
	var yes, no int
	forMany(t, 1000, func(_ *rand.Rand, h boil.House) {
		few, e := boil.Fewest(h)
		trusted, f := boil.Trusted(h)
		proof, g := boil.Proof(h)
		if e != api.OK || f != api.OK || g != api.OK {
			t.Error(h, e, f, g)
		}
		all := agree(t, h)
		if all != (len(few) == 0) || all != (len(proof) == 0) || all != slices.Equal(trusted, upto(len(h.Weighings))) && len(h.Weighings) > 0 {
			t.Error(h, all, few, trusted, proof)
		}
		if all {
			yes++
		} else {
			no++
		}
		if slices.ContainsFunc(trusted, func(n int) bool { return slices.Contains(few, n) }) {
			t.Error(h, few, trusted)
		}
	})
	if yes < 300 || no < 300 {
		t.Error("too few houses of a kind to show anything", yes, no)
	}
}

// P8.8: one weighing more never makes a bound wider, nor the smallest set smaller.
func TestOneWeighingMore(t *testing.T) {
	var narrower, larger, clash int
	forMany(t, 2000, func(r *rand.Rand, h boil.House) {
		longer := with(h, anyWeighing(r, h))
		was, e := boil.Fewest(h)
		is, f := boil.Fewest(longer)
		if len(is) < len(was) || len(is) > len(was)+1 || e != api.OK || f != api.OK {
			t.Error(longer, was, is, e, f)
		}
		if len(is) > len(was) {
			larger++
		}
		for month := range h.Months {
			lo, hi, e := boil.Bounds(h, month)
			a, b, f := boil.Bounds(longer, month)
			switch {
			case f == api.ErrClash:
				clash++
			case e == api.OK && (f != api.OK || inOrder(a, lo) < 0 || inOrder(b, hi) > 0) || e == api.ErrClash:
				t.Error(longer, month, lo, hi, a, b, e, f)
			case e == api.OK && (lo != a || hi != b):
				narrower++
			}
		}
	})
	if narrower < 100 || larger < 200 || clash < 200 {
		t.Error("too few weighings of a kind to show anything", narrower, larger, clash)
	}
}

// P8.8: a weighing with wider spans never makes the smallest set greater.
func TestWiderSpans(t *testing.T) {
	var smaller int
	ask := func(r *rand.Rand, h boil.House) {
		if len(h.Weighings) == 0 {
			return
		}
		wider := copied(h)
		x := &wider.Weighings[r.Intn(len(h.Weighings))]
		x.Shells = span(max(1, x.Shells.Lo-r.Intn(4)), x.Shells.Hi+r.Intn(4))
		x.Meat = span(max(1, x.Meat.Lo-r.Intn(4)), x.Meat.Hi+r.Intn(4))
		was, e := boil.Fewest(h)
		is, f := boil.Fewest(wider)
		if len(is) > len(was) || e != api.OK || f != api.OK {
			t.Error(h, wider, was, is, e, f)
		}
		if len(is) < len(was) {
			smaller++
		}
	}
	forMany(t, 1500, ask)
	forManyLarge(t, 300, ask)
	if smaller < 100 {
		t.Error("too few weighings to show anything", smaller)
	}
}

// P0.1: no function panics, whatever its arguments are, and all end.
func TestAnyArguments(t *testing.T) {
	some := append(farNumbers(), 0, 1, -1, 2, 3, 4, 5, 11, 12, 13, 14, 15, 999, 1000, 1001, 1000000, 1000001)
	r := rand.New(rand.NewSource(8))
	pick := func() int { return some[r.Intn(len(some))] }
	var allowed int
	for range 5000 {
		h := house(pick(), pick())
		if r.Intn(3) > 0 {
			h = anyHouse(r)
		}
		for range r.Intn(3) {
			x := weighed(r.Intn(2), 1+r.Intn(9), 10, 1+r.Intn(9), 10)
			for _, n := range []*int{&x.Month, &x.Shells.Lo, &x.Shells.Hi, &x.Meat.Lo, &x.Meat.Hi} {
				if r.Intn(8) == 0 {
					*n = pick()
				}
			}
			h.Weighings = append(h.Weighings, x)
		}
		want := boil.Check(h)
		if want == api.OK {
			allowed++
		}
		for _, c := range calls(pick()) {
			if isZero, e := c.ask(h); e != api.OK && !isZero || want != api.OK && e != want {
				t.Error(c.name, h, isZero, e)
			}
		}
	}
	if allowed < 1000 {
		t.Error("too few houses that are allowed to show anything", allowed)
	}
}

// P0.1: all functions end, and have answers, for houses that are as large as can be.
func TestWidest(t *testing.T) {
	pairsOf := func(many int) boil.House {
		h := house(12, 3)
		for n := range 14 {
			h.Weighings = append(h.Weighings, weighed(3, 1000, 1000, 1+n/many, 1+n/many))
		}
		return h
	}
	for many, want := range map[int]int{1: 13, 2: 12, 7: 7, 14: 0} {
		h := pairsOf(many)
		few, e := boil.Fewest(h)
		proof, f := boil.Proof(h)
		trusted, g := boil.Trusted(h)
		if len(few) != want || !isProof(h, proof, want) || e != api.OK || f != api.OK || g != api.OK || (len(trusted) > 0) != (many == 14) {
			t.Error(many, few, proof, trusted, e, f, g)
		}
	}
	truth := slices.Repeat(ratios(1000000, 999999), 12)
	if wrong, e := boil.False(widest(), truth); !slices.Equal(wrong, list(0, 1, 2, 3, 4, 5, 6, 7, 8, 9, 10, 11, 13)) || e != api.OK {
		t.Error(wrong, e)
	}
}

// houses are some that have answers of all kinds.
func houses() []boil.House {
	return []boil.House{four(), two(), rising(), pointed(), knot(), row(5, 6, 5, 6, 6), months(1, 6, 5, 7), house(5, 2), widest()}
}

// asked are arguments beside a house.
type asked struct {
	truth []api.Ratio
	pairs []boil.Pair
	gone  []int
}

// someAsked returns arguments for houses of some months.
func someAsked(months int) asked {
	return asked{slices.Repeat(ratios(2, 20), months), pairs(pair(0, 3), pair(1, 2)), list(3, 0)}
}

// everything returns all results for a house, so that they can be held against others.
func everything(h boil.House, a asked) []any {
	out := []any{boil.Check(h)}
	keep := func(results ...any) {
		for _, x := range results {
			if v := reflect.ValueOf(x); v.Kind() == reflect.Slice && v.Len() == 0 {
				x = nil
			}
			out = append(out, x)
		}
	}
	is, e := boil.Truth(h, a.truth)
	keep(is, e)
	wrong, e := boil.False(h, a.truth)
	keep(wrong, e)
	clash, e := boil.Clash(h)
	keep(clash, e)
	shown, e := boil.Shown(h)
	keep(shown, e)
	few, e := boil.Fewest(h)
	keep(few, e)
	proof, e := boil.Proof(h)
	keep(proof, e)
	many, e := boil.Proves(h, a.pairs)
	keep(many, e)
	trusted, e := boil.Trusted(h)
	keep(trusted, e)
	left, e := boil.Without(h, a.gone)
	keep(left.Months, left.Peak, left.Weighings, e)
	for n := range 6 {
		least, e := boil.Least(h, n)
		keep(least, e)
		greatest, e := boil.Greatest(h, n)
		keep(greatest, e)
		is, e := boil.Under(h, n, 2)
		keep(is, e)
		lo, hi, e := boil.Bounds(h, n)
		keep(lo, hi, e)
		out, e := boil.Meat(h, n, 90)
		keep(out, e)
		kept, e := boil.Kept(h, n, 90, 2)
		keep(kept, e)
	}
	return out
}

// R4, R5: arguments come back unchanged, and the same question has the same answer again.
func TestArgumentsUnchanged(t *testing.T) {
	for i, h := range houses() {
		same, a := copied(h), someAsked(h.Months)
		before := everything(h, a)
		everything(knot(), a)
		if after := everything(h, a); !reflect.DeepEqual(before, after) {
			t.Error(i, before, after)
		}
		if !isSame(h, same) || !reflect.DeepEqual(a, someAsked(h.Months)) {
			t.Error(i, h, a)
		}
	}
}

// roomy returns a copy of a list with marks in the room behind it, and whether they are all there still.
func roomy[T comparable](l []T, mark T) ([]T, func() bool) {
	long := append(slices.Clone(l), mark, mark, mark)
	return long[:len(l)], func() bool {
		return !slices.ContainsFunc(long[len(l):], func(x T) bool { return x != mark })
	}
}

// R4: a list that has room behind it is not written to.
func TestRoomUnchanged(t *testing.T) {
	for i, h := range houses() {
		a := someAsked(h.Months)
		var kept [4]func() bool
		h.Weighings, kept[0] = roomy(h.Weighings, weighed(77, 77, 77, 77, 77))
		a.truth, kept[1] = roomy(a.truth, ratio(77, 77))
		a.pairs, kept[2] = roomy(a.pairs, pair(77, 77))
		a.gone, kept[3] = roomy(a.gone, 77)
		everything(h, a)
		for k, is := range kept {
			if !is() {
				t.Error(i, k)
			}
		}
	}
}

// spoil overwrites a list, and the room behind it.
func spoil[T any](l []T, x T) {
	l = l[:cap(l)]
	for i := range l {
		l[i] = x
	}
}

// R4: results share no memory with arguments, or with later results.
func TestResultsApart(t *testing.T) {
	for i, h := range houses() {
		same, a := copied(h), someAsked(h.Months)
		want := everything(same, a)
		for _, gone := range [][]int{nil, a.gone} {
			left, _ := boil.Without(h, gone)
			spoil(left.Weighings, weighed(77, 77, 77, 77, 77))
		}
		wrong, _ := boil.False(h, a.truth)
		few, _ := boil.Fewest(h)
		trusted, _ := boil.Trusted(h)
		for _, l := range [][]int{wrong, few, trusted} {
			spoil(l, 77)
		}
		shown, _ := boil.Shown(h)
		spoil(shown, ratio(77, 77))
		proof, _ := boil.Proof(h)
		spoil(proof, pair(77, 77))
		if !isSame(h, same) || !reflect.DeepEqual(a, someAsked(h.Months)) || !reflect.DeepEqual(everything(h, a), want) {
			t.Error(i, h, a)
		}
	}
}

// R3: nil lists and empty ones are the same.
func TestEmptyLists(t *testing.T) {
	none := boil.House{Months: 2, Peak: 1, Weighings: []boil.Weighing{}}
	x, y := everything(house(2, 1), asked{}), everything(none, asked{ratios(), pairs(), list()})
	if !reflect.DeepEqual(x, y) {
		t.Error(x, y)
	}
	for i, h := range []boil.House{house(2, 1), none} {
		few, e := boil.Fewest(h)
		trusted, f := boil.Trusted(h)
		proof, g := boil.Proof(h)
		if !zero(few, trusted, proof) || e != api.OK || f != api.OK || g != api.OK || !agree(t, h) {
			t.Error(i, few, trusted, proof, e, f, g)
		}
	}
}
