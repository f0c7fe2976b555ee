package sack_test

import (
	"math/rand"
	"reflect"
	"slices"
	"testing"

	"laurel/api"
	"laurel/sack"
)

// P6.8, P0.7: the fewest carts are a right loading, which nothing with fewer carts is; prices never prove more.
func TestFewestIsProved(t *testing.T) {
	var tight, loose int
	forMany(t, 1500, func(r *rand.Rand, l sack.Load) {
		loading, n, e := sack.Fewest(l)
		stuck, g := sack.Stuck(l)
		if (e == api.OK) != (len(stuck) == 0) || g != api.OK {
			t.Error(l, stuck, e, g)
		}
		if e != api.OK {
			return
		}
		if is, e := sack.Loaded(l, loading); !is || cartsIn(loading) != n || e != api.OK {
			t.Error(l, loading, n, is, e)
		}
		p := anyPrices(r, l)
		proved, e := sack.Proves(l, p)
		switch {
		case e == api.ErrWrong:
			return
		case e != api.OK || proved > n:
			t.Error(l, p, proved, n, e)
		case proved == n && n > 1:
			tight++
		case n > 1:
			loose++
		}
	})
	if tight < 50 || loose < 50 {
		t.Error("too few prices of a kind to show anything", tight, loose)
	}
}

// P6.8: a cart that bears more never needs more carts.
func TestBearsMore(t *testing.T) {
	var fewer int
	forMany(t, 600, func(_ *rand.Rand, l sack.Load) {
		_, before, e := sack.Fewest(l)
		for bears := l.Bears + 1; bears <= l.Bears+12; bears++ {
			_, n, g := sack.Fewest(bearing(l, bears))
			if e == api.OK && (g != api.OK || n > before) {
				t.Error(l, bears, n, before, e, g)
			}
			if e == api.OK && n < before {
				fewer++
			}
			before, e = n, g
		}
	})
	if fewer < 100 {
		t.Error("too few loads to show anything", fewer)
	}
}

// P6.8: a sack that is heavier never makes fewer carts enough.
func TestHeavier(t *testing.T) {
	var more int
	forMany(t, 1500, func(r *rand.Rand, l sack.Load) {
		if len(l.Sacks) == 0 {
			return
		}
		heavier := copied(l)
		s := &heavier.Sacks[r.Intn(len(l.Sacks))]
		s.Measures = min(s.Measures+1+r.Intn(5), 100)
		_, n, e := sack.Fewest(l)
		_, after, g := sack.Fewest(heavier)
		if g == api.OK && (e != api.OK || after < n) {
			t.Error(l, heavier, n, after, e, g)
		}
		if e == api.OK && (g != api.OK || after > n) {
			more++
		}
		for carts := range 4 {
			before, e := sack.Bigger(l, carts)
			bears, g := sack.Bigger(heavier, carts)
			if g == api.OK && (e != api.OK || bears < before) {
				t.Error(l, heavier, carts, before, bears, e, g)
			}
		}
	})
	if more < 100 {
		t.Error("too few loads to show anything", more)
	}
}

// P6.5, P6.8: so many carts are enough just from Bigger on, and all sacks are the best set just then.
func TestBiggerIsFewest(t *testing.T) {
	var some, none int
	forMany(t, 600, func(r *rand.Rand, l sack.Load) {
		carts := r.Intn(4)
		least, e := sack.Bigger(l, carts)
		if e != api.OK {
			none++
			least = 101
		} else if least > 1 {
			some++
		}
		for _, bears := range list(least-1, least, least+1, 100) {
			if !isIn(bears, 1, 100) {
				continue
			}
			_, n, e := sack.Fewest(bearing(l, bears))
			if enough := e == api.OK && n <= carts; enough != (bears >= least) {
				t.Error(l, carts, least, bears, n, e)
			}
			best, sum, e := sack.Best(bearing(l, bears), carts)
			if all := len(best) == len(l.Sacks); all != (bears >= least) || e != api.OK {
				t.Error(l, carts, least, bears, best, sum, e)
			}
		}
	})
	if some < 100 || none < 50 {
		t.Error("too few loads of a kind to show anything", some, none)
	}
}

// P6.8: a penny more gives nobody less, and one owner one more; sharings have divisors.
func TestPennyMore(t *testing.T) {
	forMany(t, 40, func(_ *rand.Rand, l sack.Load) {
		before, e := sack.Share(l, 0)
		if sumOf(before) != 0 || len(before) != 6 || e != api.OK {
			t.Error(l, before, e)
		}
		if len(l.Sacks) == 0 {
			return
		}
		for pay := 1; pay <= 120; pay++ {
			after, e := sack.Share(l, pay)
			if e != api.OK || sumOf(after) != pay {
				t.Error(l, pay, after, e)
				return
			}
			for owner := range after {
				if more := after[owner] - before[owner]; more < 0 || more > 1 {
					t.Error(l, pay, before, after)
				}
			}
			d, e := sack.Divisor(l, after)
			if e != api.OK || !isLowest(d) {
				t.Error(l, pay, after, d, e)
			}
			if is, e := sack.Divides(l, after, d); !is || e != api.OK {
				t.Error(l, pay, after, d, is, e)
			}
			if is, e := sack.Divides(l, after, ratio(d.Num*100+1, d.Den*100)); is || e != api.OK {
				t.Error(l, pay, after, d, is, e)
			}
			before = after
		}
	})
}

// P6.8: another sharing of as many pennies with a divisor differs only at owners whose parts are that divisor times an odd number.
func TestOtherSharings(t *testing.T) {
	sharings := map[int][][]int{}
	for _, s := range tuples(4, 6) {
		sharings[sumOf(s)] = append(sharings[sumOf(s)], append(s, 0, 0))
	}
	r := rand.New(rand.NewSource(8))
	others := 0
	for range 200 {
		l := owned(1+r.Intn(9), r.Intn(9), 1+r.Intn(9), r.Intn(9))
		parts, _ := sack.Parts(l)
		for pay := 1; pay <= 5; pay++ {
			shared, _ := sack.Share(l, pay)
			d, e := sack.Divisor(l, shared)
			if e != api.OK {
				t.Error(l, shared, e)
			}
			for _, other := range sharings[pay] {
				same, e := sack.Divisor(l, other)
				if e == api.ErrNone || slices.Equal(other, shared) {
					continue
				}
				others++
				if e != api.OK || same != d {
					t.Error(l, shared, other, d, same, e)
				}
				for owner, part := range parts {
					odd := part * d.Den / d.Num
					if other[owner] != shared[owner] && (part*d.Den%d.Num != 0 || odd%2 != 1) {
						t.Error(l, shared, other, owner, d)
					}
				}
			}
		}
	}
	if others < 100 {
		t.Error("too few other sharings to show anything", others)
	}
}

// P0.1: no function panics, whatever its arguments are, and all end.
func TestAnyArguments(t *testing.T) {
	some := append(farNumbers(), 0, 1, -1, 2, 3, 5, 6, 8, 9, 10, 40, 50, 90, 91, 100, 101)
	r := rand.New(rand.NewSource(7))
	pick := func() int { return some[r.Intn(len(some))] }
	for range 3000 {
		l := sack.Load{Bears: pick(), Shrink: pick()}
		if r.Intn(2) == 0 {
			l = anyLoad(r)
		}
		for range r.Intn(2) {
			l.Sacks = append(l.Sacks, of(pick(), pick()))
		}
		for range r.Intn(2) {
			l.Apart = append(l.Apart, [2]int{pick(), pick()})
		}
		for range r.Intn(2) {
			l.With = append(l.With, [2]int{pick(), pick()})
		}
		want := sack.Check(l)
		for _, c := range calls(pick()) {
			if isZero, e := c.ask(l); e != api.OK && !isZero || want != api.OK && e != want {
				t.Error(c.name, l, isZero, e)
			}
		}
		if kept, through, e := sack.Riddle(list(pick(), pick()), pick()); e != api.OK && !zero(kept, through) {
			t.Error(kept, through, e)
		}
		if n, e := sack.Gauge(list(pick(), pick()), pick()); e != api.OK && n != 0 {
			t.Error(n, e)
		}
	}
}

// P0.1, P6.4, P6.5: loads that are as large as can be.
func TestWidest(t *testing.T) {
	nines := slices.Repeat(list(9), 9)
	all := list(0, 1, 2, 3, 4, 5, 6, 7, 8)
	for i, x := range []struct {
		l       sack.Load
		fewest  []int
		n       int
		carts   int
		best    []int
		sum     int
		bigger  int
		noCarts api.Errno
	}{
		{dry(100, nines...), make([]int, 9), 1, 1, all, 81, 81, api.OK},
		{dry(80, nines...), list(0, 0, 0, 0, 0, 0, 0, 0, 1), 2, 1, list(0, 1, 2, 3, 4, 5, 6, 7), 72, 81, api.OK},
		{dry(18, nines...), list(0, 0, 1, 1, 2, 2, 3, 3, 4), 5, 3, list(0, 1, 2, 3, 4, 5), 54, 27, api.OK},
		{dry(9, nines...), all, 9, 8, list(0, 1, 2, 3, 4, 5, 6, 7), 72, 18, api.OK},
		{widest(), list(0, 1, 2, 3, 4, 5, 6, 3, 6), 7, 7, all, 547, 100, api.OK},
		{widest(), list(0, 1, 2, 3, 4, 5, 6, 3, 6), 7, 3, list(0, 1, 2), 297, 0, api.ErrNone},
	} {
		fewest, n, e := sack.Fewest(x.l)
		if !slices.Equal(fewest, x.fewest) || n != x.n || e != api.OK {
			t.Error(i, fewest, n, e)
		}
		best, sum, e := sack.Best(x.l, x.carts)
		bigger, g := sack.Bigger(x.l, x.carts)
		if !slices.Equal(best, x.best) || sum != x.sum || bigger != x.bigger || e != api.OK || g != x.noCarts {
			t.Error(i, best, sum, bigger, e, g)
		}
		if shared, e := sack.Share(x.l, 500); sumOf(shared) != 500 || e != api.OK {
			t.Error(i, shared, e)
		}
	}
}

// loads are some that have answers of all kinds.
func loads() []sack.Load {
	return []sack.Load{five(nil, nil), paired(), five(nil, pairs([2]int{4, 0}, [2]int{2, 4})), dry(10, 6, 6, 4, 4), owned(0, 30, 10, 0, 0, 90), dry(9), widest()}
}

// asked are arguments beside a load.
type asked struct {
	sizes, cart, loading, sharing []int
	p                             sack.Prices
}

func someAsked() asked {
	return asked{list(12, 20, 19, 25), list(3, 1), list(0, 1, 0, 1, 1), list(5, 3, 2, 0, 0, 0), price(50, 27, 18, 23, 18, 9)}
}

// everything returns all results for a load, so that they can be held against others.
func everything(l sack.Load, a asked) []any {
	out := []any{sack.Check(l)}
	keep := func(results ...any) {
		for _, x := range results {
			if v := reflect.ValueOf(x); v.Kind() == reflect.Slice && v.Len() == 0 {
				x = nil
			}
			out = append(out, x)
		}
	}
	kept, through, e := sack.Riddle(a.sizes, 20)
	keep(kept, through, e)
	gauge, e := sack.Gauge(a.sizes, 1)
	keep(gauge, e)
	weights, e := sack.Weights(l)
	keep(weights, e)
	bundles, e := sack.Bundles(l)
	keep(bundles, e)
	stuck, e := sack.Stuck(l)
	keep(stuck, e)
	is, e := sack.Right(l, a.cart)
	keep(is, e)
	is, e = sack.Loaded(l, a.loading)
	keep(is, e)
	fewest, n, e := sack.Fewest(l)
	keep(fewest, n, e)
	is, e = sack.Fair(l, a.p)
	keep(is, e)
	n, e = sack.Proves(l, a.p)
	keep(n, e)
	parts, e := sack.Parts(l)
	keep(parts, e)
	is, e = sack.Divides(l, a.sharing, ratio(27, 5))
	keep(is, e)
	d, e := sack.Divisor(l, a.sharing)
	keep(d, e)
	for _, n := range list(0, 1, 2, 9) {
		best, sum, e := sack.Best(l, n)
		keep(best, sum, e)
		bigger, e := sack.Bigger(l, n)
		keep(bigger, e)
		shared, e := sack.Share(l, n)
		keep(shared, e)
		owed, e := sack.Owed(l, a.sharing, n)
		keep(owed, e)
	}
	return out
}

// R4, R5: arguments come back unchanged, and the same question has the same answer again.
func TestArgumentsUnchanged(t *testing.T) {
	for i, l := range loads() {
		same, a := copied(l), someAsked()
		before := everything(l, a)
		everything(paired(), a)
		if after := everything(l, a); !reflect.DeepEqual(before, after) {
			t.Error(i, before, after)
		}
		if !sameLoad(l, same) || !reflect.DeepEqual(a, someAsked()) {
			t.Error(i, l, a)
		}
	}
}

// roomy returns a copy of a list with marks in the room behind it, and whether they are all there still.
func roomy[T comparable](l []T, mark T) ([]T, func() bool) {
	long := append(slices.Clone(l), mark, mark, mark)
	return long[:len(l)], func() bool {
		return !slices.ContainsFunc(long[len(l):], func(x T) bool { return x != mark })
	}
}

// R4: a list that has room behind it is not written to.
func TestRoomUnchanged(t *testing.T) {
	l, a := paired(), someAsked()
	var kept [8]func() bool
	l.Sacks, kept[0] = roomy(l.Sacks, of(77, 77))
	l.Apart, kept[1] = roomy(l.Apart, [2]int{77, 77})
	l.With, kept[2] = roomy(l.With, [2]int{77, 77})
	a.sizes, kept[3] = roomy(a.sizes, 77)
	a.cart, kept[4] = roomy(a.cart, 77)
	a.loading, kept[5] = roomy(a.loading, 77)
	a.sharing, kept[6] = roomy(a.sharing, 77)
	a.p.Sacks, kept[7] = roomy(a.p.Sacks, 77)
	everything(l, a)
	for i, is := range kept {
		if !is() {
			t.Error(i)
		}
	}
}

// spoil overwrites a list, and the room behind it.
func spoil(l []int) {
	l = l[:cap(l)]
	for i := range l {
		l[i] = 77
	}
}

// R4: results share no memory with arguments, with each other, or with later results.
func TestResultsApart(t *testing.T) {
	for i, l := range loads() {
		same, a := copied(l), someAsked()
		want := everything(same, a)
		kept, through, _ := sack.Riddle(a.sizes, 20)
		spoil(kept)
		if !slices.Equal(through, list(12, 19)) {
			t.Error(i, through)
		}
		spoil(through)
		bundles, _ := sack.Bundles(l)
		for _, b := range bundles {
			if slices.Contains(b, 77) {
				t.Error("two bundles share memory", i)
			}
			spoil(b)
		}
		weights, _ := sack.Weights(l)
		stuck, _ := sack.Stuck(l)
		fewest, _, _ := sack.Fewest(l)
		best, _, _ := sack.Best(l, 1)
		parts, _ := sack.Parts(l)
		shared, _ := sack.Share(l, 9)
		owed, _ := sack.Owed(l, a.sharing, 9)
		for _, list := range [][]int{weights, stuck, fewest, best, parts, shared, owed} {
			spoil(list)
		}
		if !sameLoad(l, same) || !reflect.DeepEqual(a, someAsked()) || !reflect.DeepEqual(everything(l, a), want) {
			t.Error(i, l, a)
		}
	}
}

// R3: nil lists and empty ones are the same.
func TestEmptyLists(t *testing.T) {
	a, b := asked{}, asked{list(), list(), list(), list(), price(0)}
	a.p.Unit, b.p.Unit, b.p.Sacks = 5, 5, list()
	none := sack.Load{Bears: 5, Sacks: []sack.Sack{}, Apart: pairs(), With: pairs()}
	if x, y := everything(dry(5), a), everything(none, b); !reflect.DeepEqual(x, y) {
		t.Error(x, y)
	}
	if is, e := sack.Right(none, nil); !is || e != api.OK {
		t.Error(is, e)
	}
	if is, e := sack.Loaded(none, nil); !is || e != api.OK {
		t.Error(is, e)
	}
	if n, e := sack.Proves(none, sack.Prices{Unit: 1}); n != 0 || e != api.OK {
		t.Error(n, e)
	}
}
