package sack_test

import (
	"math/rand"
	"slices"
	"testing"

	"laurel/api"
	"laurel/sack"
)

// P6.3: carts that are right, in whatever order their sacks are listed.
func TestRight(t *testing.T) {
	for i, x := range []struct {
		l    sack.Load
		cart []int
		is   bool
	}{
		{five(nil, nil), nil, true},
		{five(nil, nil), list(), true},
		{five(nil, nil), list(0, 2), true}, // just 50
		{five(nil, nil), list(2, 0), true},
		{bearing(five(nil, nil), 49), list(2, 0), false},
		{five(nil, nil), list(0, 2, 4), false},
		{five(nil, nil), list(4, 3, 2), true},
		{five(nil, nil), list(0, 1, 2, 3, 4), false},
		{five(pairs([2]int{2, 0}), nil), list(0, 2), false},
		{five(pairs([2]int{0, 2}), nil), list(0, 2), false},
		{five(pairs([2]int{0, 2}), nil), list(0, 1), true},
		{five(pairs([2]int{3, 4}, [2]int{0, 2}), nil), list(0, 2), false},
		{five(nil, pairs([2]int{1, 3})), list(1), false},
		{five(nil, pairs([2]int{1, 3})), list(3), false},
		{five(nil, pairs([2]int{1, 3})), list(3, 1), true},
		{five(nil, pairs([2]int{1, 3})), list(0), true},
		{five(nil, pairs([2]int{1, 3})), nil, true},
		{five(nil, pairs([2]int{1, 3}, [2]int{3, 4})), list(1, 3), false},
		{five(nil, pairs([2]int{1, 3}, [2]int{3, 4})), list(4, 1), false},
		{five(nil, pairs([2]int{1, 3}, [2]int{3, 4})), list(4, 1, 3), true},
		{five(pairs([2]int{1, 4}), pairs([2]int{1, 3}, [2]int{3, 4})), list(4, 1, 3), false},
		{dry(9, 10), list(0), false},
		{dry(9), nil, true},
	} {
		if is, e := sack.Right(x.l, x.cart); is != x.is || e != api.OK {
			t.Error(i, is, e)
		}
	}
}

// P6.3, R1: errors are asked for sack by sack, whatever the cart weighs.
func TestRightErrors(t *testing.T) {
	for i, x := range []struct {
		cart []int
		e    api.Errno
	}{
		{list(5), api.ErrMissing},
		{list(-1), api.ErrMissing},
		{list(0, 1, 2, 3, 4, 5), api.ErrMissing},
		{list(0, 0), api.ErrAgain},
		{list(0, 1, 2, 3, 4, 0), api.ErrAgain},
		{list(4, 2, 4), api.ErrAgain},
		{list(0, 5, 0), api.ErrMissing},
		{list(0, 0, 5), api.ErrAgain},
		{list(5, 5), api.ErrMissing},
		{list(0, 1, 1, 5, -1), api.ErrAgain},
		{slices.Repeat(list(3), 100000), api.ErrAgain},
		{append(list(1, 2), farNumbers()...), api.ErrMissing},
	} {
		for _, l := range []sack.Load{five(nil, nil), paired(), bearing(paired(), 1)} {
			if is, e := sack.Right(l, x.cart); is || e != x.e {
				t.Error(i, is, e)
			}
		}
	}
	for _, s := range farNumbers() {
		if is, e := sack.Right(paired(), list(s)); is || e != api.ErrMissing {
			t.Error(s, is, e)
		}
	}
	if is, e := sack.Right(dry(9), list(0)); is || e != api.ErrMissing {
		t.Error(is, e)
	}
}

// P6.3: lists that are loadings, and right.
func TestLoaded(t *testing.T) {
	for i, x := range []struct {
		l       sack.Load
		loading []int
		is      bool
	}{
		{five(nil, nil), list(0, 0, 1, 1, 1), true}, // example 2
		{five(nil, nil), list(0, 1, 0, 1, 1), true},
		{five(nil, nil), list(0, 1, 2, 3, 4), true},
		{five(nil, nil), list(0, 1, 1, 0, 2), true},
		{five(nil, nil), list(0, 0, 0, 1, 1), false}, // too heavy
		{five(nil, nil), list(0, 1, 1, 1, 0), false},
		{five(nil, nil), list(1, 0, 1, 0, 0), false}, // not numbered from 0 on
		{five(nil, nil), list(1, 1, 2, 2, 2), false},
		{five(nil, nil), list(0, 2, 0, 2, 2), false},
		{five(nil, nil), list(0, 2, 1, 2, 2), false},
		{five(nil, nil), list(0, 0, 1, 1, 3), false},
		{five(nil, nil), list(0, 1, 2, 3, 8), false},
		{five(nil, nil), list(8, 0, 1, 2, 3), false},
		{five(pairs([2]int{0, 1}), nil), list(0, 0, 1, 1, 1), false},
		{five(pairs([2]int{0, 1}), nil), list(0, 1, 0, 1, 1), true},
		{paired(), list(0, 1, 2, 1, 0), true}, // example 3
		{paired(), list(0, 1, 0, 1, 2), false},
		{paired(), list(0, 1, 2, 3, 0), false}, // half a bundle on each of two carts
		{dry(5, 5, 5, 5, 5, 5, 5, 5, 5, 5), list(0, 1, 2, 3, 4, 5, 6, 7, 8), true},
		{dry(5, 5, 5, 5, 5, 5, 5, 5, 5, 5), list(0, 1, 2, 3, 4, 5, 6, 7, 7), false},
		{dry(9, 10), list(0), false},
		{dry(9), nil, true},
		{dry(9), list(), true},
	} {
		if is, e := sack.Loaded(x.l, x.loading); is != x.is || e != api.OK {
			t.Error(i, is, e)
		}
	}
}

// P6.3, R1: a list of another length comes before numbers that are not allowed.
func TestLoadedErrors(t *testing.T) {
	for i, x := range []struct {
		loading []int
		e       api.Errno
	}{
		{nil, api.ErrMany},
		{list(0, 0, 1, 1), api.ErrMany},
		{list(0, 0, 1, 1, 1, 1), api.ErrMany},
		{list(0, 9, 1, 1), api.ErrMany},
		{slices.Repeat(list(-1), 100000), api.ErrMany},
		{list(0, 0, 1, 1, 9), api.ErrLimit},
		{list(-1, 0, 1, 1, 1), api.ErrLimit},
		{list(0, 0, 0, 0, 9), api.ErrLimit},
		{list(3, 0, -1, 0, 1), api.ErrLimit},
		{list(0, 0, 1, 1, 8), api.OK},
	} {
		if is, e := sack.Loaded(five(nil, nil), x.loading); is || e != x.e {
			t.Error(i, is, e)
		}
	}
	for _, n := range outside(0, 8) {
		for at := range 5 {
			loading := list(0, 0, 1, 1, 1)
			loading[at] = n
			if is, e := sack.Loaded(five(nil, nil), loading); is || e != api.ErrLimit {
				t.Error(n, at, is, e)
			}
		}
	}
	if is, e := sack.Loaded(dry(9), list(0)); is || e != api.ErrMany {
		t.Error(is, e)
	}
}

// P6.4: the right loading with the fewest carts, the first one of several.
func TestFewest(t *testing.T) {
	late := dry(10, 2, 8, 9, 1)
	late.With = pairs([2]int{3, 2})
	chain := dry(10, 4, 4, 4, 4, 4, 4)
	chain.With, chain.Apart = pairs([2]int{0, 5}, [2]int{1, 3}), pairs([2]int{2, 4})
	for i, x := range []struct {
		l    sack.Load
		want []int
		n    int
		e    api.Errno
	}{
		{five(nil, nil), list(0, 0, 1, 1, 1), 2, api.OK}, // example 2
		{five(pairs([2]int{0, 1}), nil), list(0, 1, 0, 1, 1), 2, api.OK},
		{five(pairs([2]int{0, 2}), nil), list(0, 0, 1, 1, 1), 2, api.OK},
		{paired(), list(0, 1, 2, 1, 0), 3, api.OK}, // example 3
		{bearing(five(nil, nil), 100), list(0, 0, 0, 0, 0), 1, api.OK},
		{bearing(five(nil, nil), 95), list(0, 0, 0, 0, 0), 1, api.OK},
		{bearing(five(nil, nil), 94), list(0, 0, 0, 0, 1), 2, api.OK},
		{bearing(five(nil, nil), 49), list(0, 0, 1, 1, 2), 3, api.OK},
		{bearing(five(nil, nil), 27), list(0, 1, 2, 3, 1), 4, api.OK},
		{bearing(five(nil, nil), 26), nil, 0, api.ErrNone},
		{five(nil, pairs([2]int{4, 0}, [2]int{2, 4})), nil, 0, api.ErrNone},
		{five(pairs([2]int{4, 1}), pairs([2]int{1, 4})), nil, 0, api.ErrNone},
		{dry(10, 5, 5, 5, 5), list(0, 0, 1, 1), 2, api.OK},
		{dry(10, 6, 6, 4, 4), list(0, 1, 0, 1), 2, api.OK},
		{dry(10, 4, 4, 6, 6), list(0, 1, 0, 1), 2, api.OK}, // the first one that fits would be 0, 0, and three carts
		{dry(10, 3, 3, 3, 7, 7, 7), list(0, 1, 2, 0, 1, 2), 3, api.OK},
		{dry(10, 7, 2, 3, 8), list(0, 1, 0, 1), 2, api.OK},
		{late, list(0, 0, 1, 1), 2, api.OK},
		{chain, list(0, 1, 2, 1, 3, 0), 4, api.OK}, // two bundles of 8, and two sacks that go neither with these nor with each other
		{dry(10, 10), list(0), 1, api.OK},
		{dry(9, 10), nil, 0, api.ErrNone},
		{dry(9, 1, 1, 1, 1, 1, 1, 1, 1, 10), nil, 0, api.ErrNone},
		{dry(9, 1, 1, 1, 1, 1, 1, 1, 1, 1), list(0, 0, 0, 0, 0, 0, 0, 0, 0), 1, api.OK},
		{dry(5, 5, 5, 5, 5, 5, 5, 5, 5, 5), list(0, 1, 2, 3, 4, 5, 6, 7, 8), 9, api.OK},
		{dry(9), nil, 0, api.OK},
	} {
		got, n, e := sack.Fewest(x.l)
		if !slices.Equal(got, x.want) || n != x.n || e != x.e {
			t.Error(i, got, n, e)
		}
	}
}

// P6.3, P6.4: carts and loadings of many loads, for each list of sacks and numbers.
func TestCartsMany(t *testing.T) {
	var right, loaded int
	forMany(t, 150, func(r *rand.Rand, l sack.Load) {
		l.Sacks = l.Sacks[:min(len(l.Sacks), 4)]
		if sack.Check(l) != api.OK {
			return
		}
		o := slow{l}
		for _, cart := range subsets(len(l.Sacks)) {
			r.Shuffle(len(cart), func(a, b int) { cart[a], cart[b] = cart[b], cart[a] })
			is, e := sack.Right(l, cart)
			if is != o.isRight(cart) || e != api.OK {
				t.Error(l, cart, is, e)
			}
			if is && len(cart) > 1 {
				right++
			}
		}
		for _, loading := range tuples(len(l.Sacks), len(l.Sacks)+1) {
			want := isLoading(loading) && o.isLoaded(o.all(), loading)
			if is, e := sack.Loaded(l, loading); is != want || e != api.OK {
				t.Error(l, loading, is, want, e)
			}
			if want && len(loading) > 2 {
				loaded++
			}
		}
	})
	if right < 100 || loaded < 100 {
		t.Error("too few carts to show anything", right, loaded)
	}
}

// P6.4, P0.7: the fewest carts of many loads, of all loadings.
func TestFewestMany(t *testing.T) {
	var many, none int
	forMany(t, 800, func(_ *rand.Rand, l sack.Load) {
		o := slow{l}
		want, found := o.fewest(o.all())
		if found != (len(o.stuck()) == 0) {
			t.Error(l, want, found)
		}
		got, n, e := sack.Fewest(l)
		if !slices.Equal(got, want) || n != cartsIn(want) || (e == api.OK) != found || !found && e != api.ErrNone {
			t.Error(l, got, n, want, e)
		}
		if !found {
			none++
		} else if n > 1 && n < len(l.Sacks) {
			many++
		}
	})
	if many < 100 || none < 50 {
		t.Error("too few loads of a kind to show anything", many, none)
	}
}

// P6.4: the fewest carts of loads with as many sacks as there can be.
func TestFewestNine(t *testing.T) {
	all := loadings(9)
	r := rand.New(rand.NewSource(9))
	for range 8 {
		l := sack.Load{Bears: 30 + r.Intn(20), Apart: anyPairs(r, 9, r.Intn(5)), With: anyPairs(r, 9, r.Intn(3))}
		for range 9 {
			l.Sacks = append(l.Sacks, of(3+r.Intn(15), r.Intn(6)))
		}
		o := slow{l}
		right := map[int]bool{}
		for mask := range 1 << 9 {
			right[mask] = o.isRight(sacksOf(mask))
		}
		var want []int
		for _, loading := range all {
			if (want == nil || cartsIn(loading) < cartsIn(want)) && isRightBy(right, loading) {
				want = loading
			}
		}
		got, n, e := sack.Fewest(l)
		if !slices.Equal(got, want) || n != cartsIn(want) || (e == api.OK) != (want != nil) {
			t.Error(l, got, n, want, e)
		}
	}
}

// sacksOf returns the sacks of a number's bits.
func sacksOf(mask int) []int {
	var out []int
	for s := range 9 {
		if mask>>s%2 == 1 {
			out = append(out, s)
		}
	}
	return out
}

// isRightBy reports whether all carts of a loading are right, if it is known which ones are.
func isRightBy(right map[int]bool, loading []int) bool {
	var masks [9]int
	for s, cart := range loading {
		masks[cart] |= 1 << s
	}
	for _, mask := range masks {
		if !right[mask] {
			return false
		}
	}
	return true
}
