package sack_test

import (
	"math"
	"math/rand"
	"slices"
	"testing"

	"laurel/api"
	"laurel/sack"
)

func price(unit int, sacks ...int) sack.Prices { return sack.Prices{Unit: unit, Sacks: sacks} }

// P6.4: prices that are right, and how many carts they prove.
func TestPrices(t *testing.T) {
	for i, x := range []struct {
		l  sack.Load
		p  sack.Prices
		is bool
		n  int
	}{
		{five(nil, nil), price(50, 27, 18, 23, 18, 9), true, 2}, // example 4
		{five(nil, nil), price(49, 27, 18, 23, 18, 9), false, 0},
		{bearing(five(nil, nil), 49), price(49, 27, 18, 23, 18, 9), true, 2},
		{bearing(five(nil, nil), 49), price(45, 27, 18, 23, 18, 9), true, 3}, // as no sacks weigh 46 to 49
		{bearing(five(nil, nil), 49), price(44, 27, 18, 23, 18, 9), false, 0},
		{five(nil, nil), price(2, 1, 1, 1, 0, 0), true, 2},
		{five(nil, nil), price(1, 1, 1, 0, 0, 0), false, 0},
		{five(pairs([2]int{0, 1}), nil), price(1, 1, 1, 0, 0, 0), true, 2},
		{five(pairs([2]int{1, 0}), nil), price(1, 1, 1, 1, 0, 0), false, 0}, // the sacks 0 and 2 go on one cart
		{five(pairs([2]int{1, 0}, [2]int{0, 2}), nil), price(1, 1, 1, 1, 0, 0), false, 0},
		{five(pairs([2]int{1, 0}, [2]int{0, 2}, [2]int{2, 1}), nil), price(1, 1, 1, 1, 0, 0), true, 3},
		{paired(), price(1, 1, 1, 1, 0, 0), true, 3}, // sack 1 only goes with sack 3
		{paired(), price(2, 1, 1, 1, 1, 0), true, 2},
		{paired(), price(1, 1, 1, 1, 1, 0), false, 0},
		{five(nil, nil), price(100, 0, 0, 0, 0, 0), true, 0},
		{five(nil, nil), price(1, 0, 0, 0, 0, 0), true, 0},
		{five(nil, nil), price(1, 1, 0, 0, 0, 0), true, 1},
		{five(nil, nil), price(100, 1, 0, 0, 0, 0), true, 1},
		{dry(10, 6, 6, 6), price(1, 1, 1, 1), true, 3},
		{dry(10, 6, 6, 6), price(10, 6, 6, 6), true, 2},
		{dry(10, 6, 6, 6), price(9, 6, 6, 6), true, 2},
		{dry(10, 6, 6, 6), price(5, 6, 6, 6), false, 0},
		{dry(12, 6, 6, 6), price(6, 6, 6, 0), false, 0},
		{dry(5, 6), price(1, 100), true, 100}, // no right cart has it
		{dry(5, 6, 5), price(7, 100, 7), true, 16},
		{dry(5, 6, 5), price(7, 100, 8), false, 0},
		{dry(9), price(1), true, 0},
		{dry(9, 1, 1, 1, 1, 1, 1, 1, 1, 1), price(100, 100, 100, 100, 100, 100, 100, 100, 100, 100), false, 0},
		{dry(1, 1, 1, 1, 1, 1, 1, 1, 1, 1), price(100, 100, 100, 100, 100, 100, 100, 100, 100, 100), true, 9},
	} {
		is, e := sack.Fair(x.l, x.p)
		if is != x.is || e != api.OK {
			t.Error(i, is, e)
		}
		want := api.OK
		if !x.is {
			want = api.ErrWrong
		}
		if n, e := sack.Proves(x.l, x.p); n != x.n || e != want {
			t.Error(i, n, e)
		}
	}
}

// P6.4, R1: prices of another number come before numbers that are not allowed, and these before prices that are not right.
func TestPricesErrors(t *testing.T) {
	type test struct {
		l sack.Load
		p sack.Prices
		e api.Errno
	}
	tests := []test{
		{five(nil, nil), price(50), api.ErrMany},
		{five(nil, nil), price(50, 1, 1, 1, 1), api.ErrMany},
		{five(nil, nil), price(50, 1, 1, 1, 1, 1, 1), api.ErrMany},
		{five(nil, nil), price(0, 1, 1, 1, 101), api.ErrMany},
		{five(nil, nil), price(-1, slices.Repeat(list(101), 100000)...), api.ErrMany},
		{five(nil, nil), price(1, 100, 100, 100, 101, 100), api.ErrLimit},
		{five(nil, nil), price(0, 100, 100, 100, 100, 100), api.ErrLimit},
		{five(nil, nil), price(0, 0, 0, 0, 0, 0), api.ErrLimit},
		{five(nil, nil), price(101, 1, 1, 1, 1, 1), api.ErrLimit},
		{dry(9), price(1, 1), api.ErrMany},
		{dry(9), price(0), api.ErrLimit},
		{dry(9), price(101), api.ErrLimit},
	}
	for _, n := range farNumbers() {
		tests = append(tests, test{five(nil, nil), price(n, 1, 1, 1, 1, 1), api.ErrLimit})
	}
	for _, n := range outside(0, 100) {
		for at := range 5 {
			p := price(50, 1, 1, 1, 1, 1)
			p.Sacks[at] = n
			tests = append(tests, test{five(nil, nil), p, api.ErrLimit})
		}
	}
	for i, x := range tests {
		if is, e := sack.Fair(x.l, x.p); is || e != x.e {
			t.Error(i, is, e)
		}
		if n, e := sack.Proves(x.l, x.p); n != 0 || e != x.e {
			t.Error(i, n, e)
		}
	}
}

// P6.5: the heaviest set that goes, and what a cart must bear.
func TestBestBigger(t *testing.T) {
	heavy := dry(100, 60, 50, 40)
	heavy.With = pairs([2]int{0, 1})
	for i, x := range []struct {
		l      sack.Load
		carts  int
		best   []int
		sum    int
		bigger int
		e      api.Errno
	}{
		{five(nil, nil), 1, list(0, 2), 50, 95, api.OK}, // example 4
		{five(nil, nil), 2, list(0, 1, 2, 3, 4), 95, 50, api.OK},
		{five(nil, nil), 3, list(0, 1, 2, 3, 4), 95, 36, api.OK},
		{five(nil, nil), 4, list(0, 1, 2, 3, 4), 95, 27, api.OK},
		{five(nil, nil), 9, list(0, 1, 2, 3, 4), 95, 27, api.OK},
		{five(nil, nil), 0, nil, 0, 0, api.ErrNone},
		{bearing(five(nil, nil), 49), 1, list(0, 1), 45, 95, api.OK}, // before 0 3, which weigh as much
		{bearing(five(nil, nil), 49), 2, list(0, 1, 2, 3), 86, 50, api.OK},
		{bearing(five(nil, nil), 1), 9, nil, 0, 27, api.OK},
		{five(pairs([2]int{0, 2}), nil), 1, list(1, 2, 4), 50, 0, api.ErrNone},
		{five(pairs([2]int{2, 0}), nil), 2, list(0, 1, 2, 3, 4), 95, 50, api.OK},
		{five(nil, pairs([2]int{0, 2}, [2]int{1, 3})), 1, list(0, 2), 50, 95, api.OK},
		{paired(), 2, list(0, 1, 3, 4), 72, 59, api.OK},
		{paired(), 3, list(0, 1, 2, 3, 4), 95, 36, api.OK},
		{five(pairs([2]int{1, 3}), pairs([2]int{1, 3})), 9, list(0, 2, 4), 59, 0, api.ErrNone},
		{dry(9, 10, 4, 4), 1, list(1, 2), 8, 18, api.OK},
		{dry(9, 10, 4, 4), 2, list(1, 2), 8, 10, api.OK},
		{dry(10, 4, 5, 6, 5), 1, list(0, 2), 10, 20, api.OK}, // before 1 3
		{dry(10, 5, 4, 5, 6), 1, list(0, 2), 10, 20, api.OK},
		{dry(10, 7, 7, 7), 2, list(0, 1), 14, 14, api.OK},
		{dry(10, 5, 5, 5, 5, 5), 2, list(0, 1, 2, 3), 20, 15, api.OK},
		{heavy, 9, list(2), 40, 0, api.ErrNone}, // it would take 110
		{dry(1, 50, 50), 1, nil, 0, 100, api.OK},
		{dry(1, 50, 51), 1, nil, 0, 0, api.ErrNone},
		{dry(1, 1, 1, 1), 3, list(0, 1, 2), 3, 1, api.OK},
		{dry(100, 100, 100, 100, 100, 100, 100, 100, 100, 100), 8, list(0, 1, 2, 3, 4, 5, 6, 7), 800, 0, api.ErrNone},
		{dry(100, 100, 100, 100, 100, 100, 100, 100, 100, 100), 9, list(0, 1, 2, 3, 4, 5, 6, 7, 8), 900, 100, api.OK},
		{dry(9), 0, nil, 0, 1, api.OK},
		{dry(9), 9, nil, 0, 1, api.OK},
	} {
		best, sum, e := sack.Best(x.l, x.carts)
		n, g := sack.Bigger(x.l, x.carts)
		if !slices.Equal(best, x.best) || sum != x.sum || n != x.bigger || e != api.OK || g != x.e {
			t.Error(i, best, sum, n, e, g)
		}
	}
}

// P6.5, R1, R2: carts that are not allowed come before that there is none.
func TestBestBiggerErrors(t *testing.T) {
	for _, l := range []sack.Load{five(nil, nil), dry(9), dry(9, 100, 100), paired()} {
		for _, n := range append(outside(0, 9), math.MinInt+1) {
			best, sum, e := sack.Best(l, n)
			bigger, g := sack.Bigger(l, n)
			if !zero(best, sum, bigger) || e != api.ErrLimit || g != api.ErrLimit {
				t.Error(n, best, sum, bigger, e, g)
			}
		}
	}
}

// P6.4: prices of many loads, by all sets of their sacks.
func TestPricesMany(t *testing.T) {
	var fair, wrong int
	forMany(t, 1500, func(r *rand.Rand, l sack.Load) {
		p := anyPrices(r, l)
		want, n, f := (slow{l}).isFair(p), proves(p), api.OK
		if !want {
			n, f = 0, api.ErrWrong
			wrong++
		} else if n > 1 {
			fair++
		}
		is, e := sack.Fair(l, p)
		got, g := sack.Proves(l, p)
		if is != want || got != n || e != api.OK || g != f {
			t.Error(l, p, is, got, e, g)
		}
	})
	if fair < 200 || wrong < 200 {
		t.Error("too few prices of a kind to show anything", fair, wrong)
	}
}

// P6.5: what goes on too few carts, and what they must bear, in many loads.
func TestBestBiggerMany(t *testing.T) {
	var some, none int
	forMany(t, 800, func(r *rand.Rand, l sack.Load) {
		o := slow{l}
		carts := r.Intn(4)
		want := o.best(carts)
		got, sum, e := sack.Best(l, carts)
		if !slices.Equal(got, want) || sum != o.weigh(want) || e != api.OK {
			t.Error(l, carts, got, sum, want, e)
		}
		if len(got) > 0 && len(got) < len(l.Sacks) {
			some++
		}
		least, found := o.bigger(carts)
		if !found {
			least = 0
			none++
		}
		if n, e := sack.Bigger(l, carts); n != least || (e == api.OK) != found || !found && e != api.ErrNone {
			t.Error(l, carts, n, least, e)
		}
	})
	if some < 100 || none < 50 {
		t.Error("too few loads of a kind to show anything", some, none)
	}
}
