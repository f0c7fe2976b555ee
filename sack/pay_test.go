package sack_test

import (
	"math"
	"math/rand"
	"slices"
	"testing"

	"laurel/api"
	"laurel/sack"
)

// P6.6: what the sacks of each owner weigh.
func TestParts(t *testing.T) {
	half := owned(0, 3, 0, 100, 0, 7)
	half.Sacks, half.Shrink = append(half.Sacks, of(3, 1)), 50
	for i, x := range []struct {
		l    sack.Load
		want []int
	}{
		{five(nil, nil), list(50, 27, 18, 0, 0, 0)}, // example 5
		{bearing(paired(), 1), list(50, 27, 18, 0, 0, 0)},
		{half, list(0, 4, 0, 50, 0, 4)}, // each sack is rounded by itself
		{owned(1, 2, 3, 4, 5, 6), list(1, 2, 3, 4, 5, 6)},
		{dry(1, 100, 100, 100, 100, 100, 100, 100, 100, 100), list(900, 0, 0, 0, 0, 0)},
		{dry(9), list(0, 0, 0, 0, 0, 0)},
	} {
		if got, e := sack.Parts(x.l); !slices.Equal(got, x.want) || e != api.OK {
			t.Error(i, got, e)
		}
	}
}

// P6.6: sharings penny by penny, and their greatest divisors.
func TestShare(t *testing.T) {
	for i, x := range []struct {
		l    sack.Load
		pay  int
		want []int
		d    api.Ratio
	}{
		{five(nil, nil), 10, list(5, 3, 2, 0, 0, 0), ratio(27, 5)}, // example 5
		{five(nil, nil), 9, list(5, 2, 2, 0, 0, 0), ratio(50, 9)},
		{five(nil, nil), 8, list(4, 2, 2, 0, 0, 0), ratio(6, 1)},
		{five(nil, nil), 4, list(2, 1, 1, 0, 0, 0), ratio(50, 3)},
		{five(nil, nil), 3, list(1, 1, 1, 0, 0, 0), ratio(18, 1)},
		{five(nil, nil), 2, list(1, 1, 0, 0, 0, 0), ratio(27, 1)},
		{five(nil, nil), 1, list(1, 0, 0, 0, 0, 0), ratio(50, 1)},
		{owned(30, 0, 0, 0, 0, 10), 1, list(1, 0, 0, 0, 0, 0), ratio(30, 1)},
		{owned(30, 0, 0, 0, 0, 10), 2, list(2, 0, 0, 0, 0, 0), ratio(10, 1)}, // the first one of two with 10
		{owned(30, 0, 0, 0, 0, 10), 3, list(2, 0, 0, 0, 0, 1), ratio(10, 1)},
		{owned(30, 0, 0, 0, 0, 10), 4, list(3, 0, 0, 0, 0, 1), ratio(6, 1)},
		{owned(10, 0, 0, 0, 0, 30), 2, list(1, 0, 0, 0, 0, 1), ratio(10, 1)},
		{owned(30, 0, 0, 0, 0, 10), 500, list(375, 0, 0, 0, 0, 125), ratio(30, 749)},
		{owned(0, 7, 7, 7), 1, list(0, 1, 0, 0, 0, 0), ratio(7, 1)},
		{owned(0, 7, 7, 7), 5, list(0, 2, 2, 1, 0, 0), ratio(7, 3)},
		{owned(0, 0, 0, 0, 0, 1), 500, list(0, 0, 0, 0, 0, 500), ratio(1, 999)},
		{owned(90, 0, 1), 45, list(45, 0, 0, 0, 0, 0), ratio(90, 89)},
		{owned(90, 0, 1), 46, list(45, 0, 1, 0, 0, 0), ratio(1, 1)},
		{owned(91, 0, 1), 46, list(46, 0, 0, 0, 0, 0), ratio(1, 1)},
		{owned(0, 91, 1), 47, list(0, 46, 1, 0, 0, 0), ratio(1, 1)},
		{owned(1, 0, 91), 46, list(1, 0, 45, 0, 0, 0), ratio(1, 1)},
	} {
		got, e := sack.Share(x.l, x.pay)
		if !slices.Equal(got, x.want) || e != api.OK {
			t.Error(i, got, e)
		}
		if d, e := sack.Divisor(x.l, got); d != x.d || e != api.OK {
			t.Error(i, d, e)
		}
	}
	for _, l := range []sack.Load{dry(9), five(nil, nil)} {
		if got, e := sack.Share(l, 0); !slices.Equal(got, make([]int, 6)) || e != api.OK {
			t.Error(got, e)
		}
	}
}

// P6.6, R1, R2: pay that is not allowed comes before that there are no parts.
func TestShareErrors(t *testing.T) {
	for _, pay := range append(outside(0, 500), 0, 1, 500) {
		for _, l := range []sack.Load{dry(9), five(nil, nil), dry(100, 1)} {
			want := api.OK
			switch {
			case !isIn(pay, 0, 500):
				want = api.ErrLimit
			case pay > 0 && len(l.Sacks) == 0:
				want = api.ErrNone
			}
			if got, e := sack.Share(l, pay); e != want || e != api.OK && !zero(got) || e == api.OK && sumOf(got) != pay {
				t.Error(pay, got, e)
			}
		}
	}
}

// P6.6: fractions that are divisors, in lowest terms or not.
func TestDivides(t *testing.T) {
	shared := list(5, 3, 2, 0, 0, 0)
	for i, x := range []struct {
		l       sack.Load
		sharing []int
		d       api.Ratio
		is      bool
	}{
		{five(nil, nil), shared, ratio(27, 5), true}, // the greatest one
		{five(nil, nil), shared, ratio(54, 10), true},
		{five(nil, nil), shared, ratio(54000, 10000), true},
		{five(nil, nil), shared, ratio(54001, 10000), false},
		{five(nil, nil), shared, ratio(5, 1), true},
		{five(nil, nil), shared, ratio(50, 11), true}, // the least one
		{five(nil, nil), shared, ratio(100, 22), true},
		{five(nil, nil), shared, ratio(49999, 11000), false},
		{five(nil, nil), shared, ratio(9, 2), false},
		{five(nil, nil), shared, ratio(11, 2), false},
		{five(nil, nil), shared, ratio(100000, 1), false},
		{five(nil, nil), shared, ratio(1, 100000), false},
		{five(nil, nil), list(5, 3, 1, 0, 0, 0), ratio(27, 5), false},
		{five(nil, nil), list(4, 3, 2, 0, 0, 0), ratio(27, 5), false},
		{five(nil, nil), list(0, 0, 0, 0, 0, 0), ratio(50, 1), true},
		{five(nil, nil), list(0, 0, 0, 0, 0, 0), ratio(100000, 1), true},
		{five(nil, nil), list(0, 0, 0, 0, 0, 0), ratio(99999, 2000), false},
		{five(nil, nil), list(0, 0, 0, 0, 0, 0), ratio(49, 1), false},
		{five(nil, nil), list(1, 0, 0, 0, 0, 0), ratio(50, 1), true},
		{five(nil, nil), list(1, 0, 0, 0, 0, 0), ratio(51, 1), false},
		{five(nil, nil), list(1, 0, 0, 0, 0, 0), ratio(26, 1), false},
		{five(nil, nil), list(5, 3, 2, 1, 0, 0), ratio(27, 5), false}, // a penny without a part
		{dry(9), list(0, 0, 0, 0, 0, 0), ratio(1, 100000), true},
		{dry(9), list(0, 0, 0, 0, 0, 1), ratio(1, 100000), false},
		{owned(30, 0, 0, 0, 0, 10), list(1, 0, 0, 0, 0, 1), ratio(10, 1), true}, // where parts are odd times the divisor
		{owned(30, 0, 0, 0, 0, 10), list(2, 0, 0, 0, 0, 0), ratio(10, 1), true},
		{owned(30, 0, 0, 0, 0, 10), list(1, 0, 0, 0, 0, 1), ratio(9999, 1000), false},
		{owned(30, 0, 0, 0, 0, 10), list(2, 0, 0, 0, 0, 0), ratio(9999, 1000), false},
		{owned(1), list(500, 0, 0, 0, 0, 0), ratio(1, 1000), true},
		{owned(1), list(500, 0, 0, 0, 0, 0), ratio(100, 99900), true},
		{owned(1), list(500, 0, 0, 0, 0, 0), ratio(99, 98900), false},
		{owned(0, 0, 100, 100), list(0, 0, 500, 500, 0, 0), ratio(100, 1000), true},
	} {
		if is, e := sack.Divides(x.l, x.sharing, x.d); is != x.is || e != api.OK {
			t.Error(i, is, e)
		}
	}
}

// P6.6: sharings that have no divisor, or no greatest one.
func TestDivisorNone(t *testing.T) {
	for i, x := range []struct {
		l       sack.Load
		sharing []int
	}{
		{five(nil, nil), list(0, 0, 0, 0, 0, 0)}, // all that are great enough
		{dry(9), list(0, 0, 0, 0, 0, 0)},
		{dry(9), list(1, 0, 0, 0, 0, 0)},
		{dry(9), list(1, 1, 1, 1, 1, 1)},
		{five(nil, nil), list(4, 4, 2, 0, 0, 0)},
		{five(nil, nil), list(5, 3, 2, 0, 0, 1)},
		{five(nil, nil), list(0, 0, 0, 2, 0, 0)},
		{five(nil, nil), list(0, 1, 0, 0, 0, 0)},
		{five(nil, nil), list(500, 0, 0, 0, 0, 0)},
	} {
		if d, e := sack.Divisor(x.l, x.sharing); d != ratio(0, 0) || e != api.ErrNone {
			t.Error(i, d, e)
		}
	}
	for _, x := range [][2][]int{{list(1, 0, 0, 0, 0, 1), list(10, 1)}, {list(2, 0, 0, 0, 0, 0), list(10, 1)}, {list(2, 0, 0, 0, 0, 1), list(10, 1)}, {list(15, 0, 0, 0, 0, 5), list(30, 29)}} {
		if d, e := sack.Divisor(owned(30, 0, 0, 0, 0, 10), x[0]); d != ratio(x[1][0], x[1][1]) || e != api.OK {
			t.Error(x, d, e)
		}
	}
}

// P6.6, P6.7: what each owner is owed, who can owe it.
func TestOwed(t *testing.T) {
	none := make([]int, 6)
	for i, x := range []struct {
		l        sack.Load
		advances []int
		pay      int
		want     []int
	}{
		{five(nil, nil), list(6, 0, 0, 0, 0, 0), 10, list(-1, 3, 2, 0, 0, 0)}, // example 5
		{five(nil, nil), none, 10, list(5, 3, 2, 0, 0, 0)},
		{five(nil, nil), list(5, 3, 2, 0, 0, 0), 10, none},
		{five(nil, nil), list(1, 1, 1, 1, 1, 1), 10, list(4, 2, 1, -1, -1, -1)},
		{five(nil, nil), list(0, 500, 0, 0, 0, 500), 0, list(0, -500, 0, 0, 0, -500)},
		{dry(9), list(1, 2, 3, 4, 5, 6), 0, list(-1, -2, -3, -4, -5, -6)},
		{owned(30, 0, 0, 0, 0, 10), list(500, 500, 0, 0, 0, 1), 500, list(-125, -500, 0, 0, 0, 124)},
	} {
		if got, e := sack.Owed(x.l, x.advances, x.pay); !slices.Equal(got, x.want) || e != api.OK {
			t.Error(i, got, e)
		}
	}
}

// P6.6, P6.7, R1, R2: lists of another length come before numbers that are not allowed, these before the errors that follow.
func TestPenniesErrors(t *testing.T) {
	type test struct {
		pennies []int
		e       api.Errno
	}
	tests := []test{
		{nil, api.ErrMany},
		{list(5, 3, 2, 0, 0), api.ErrMany},
		{list(5, 3, 2, 0, 0, 0, 0), api.ErrMany},
		{list(501, -1), api.ErrMany},
		{slices.Repeat(list(501), 100000), api.ErrMany},
		{list(5, 3, 2, 0, 0, 501), api.ErrLimit},
		{list(-1, 3, 2, 0, 0, 0), api.ErrLimit},
		{list(5, 3, 2, 0, 0, 0), api.OK},
	}
	for _, n := range outside(0, 500) {
		for at := range 6 {
			pennies := list(5, 3, 2, 0, 0, 0)
			pennies[at] = n
			tests = append(tests, test{pennies, api.ErrLimit})
		}
	}
	for i, x := range tests {
		for _, n := range append(outside(1, 100000), 0, 1, 27, 100000) {
			want := x.e
			if want == api.OK && !isIn(n, 1, 100000) {
				want = api.ErrLimit
			}
			a, e := sack.Divides(five(nil, nil), x.pennies, ratio(n, 5))
			b, g := sack.Divides(five(nil, nil), x.pennies, ratio(5, n))
			if e != want || g != want || e != api.OK && (a || b) {
				t.Error(i, n, a, b, e, g)
			}
		}
		if d, e := sack.Divisor(five(nil, nil), x.pennies); e != x.e || e != api.OK && d != ratio(0, 0) {
			t.Error(i, d, e)
		}
		for _, l := range []sack.Load{five(nil, nil), dry(9)} {
			for _, pay := range list(-1, 0, 10, 501, math.MaxInt, math.MinInt) {
				want := x.e
				if _, e := sack.Share(l, pay); want == api.OK {
					want = e
				}
				if owed, e := sack.Owed(l, x.pennies, pay); e != want || e != api.OK && !zero(owed) {
					t.Error(i, pay, owed, e, want)
				}
			}
		}
	}
}

// P6.6, P6.7: parts, sharings and what is owed, of many loads.
func TestShareMany(t *testing.T) {
	forMany(t, 600, func(r *rand.Rand, l sack.Load) {
		o := slow{l}
		if got, e := sack.Parts(l); !slices.Equal(got, o.parts()) || e != api.OK {
			t.Error(l, got, e)
		}
		if len(l.Sacks) == 0 {
			return
		}
		pay := r.Intn(40) * r.Intn(13)
		want := o.share(pay)
		if got, e := sack.Share(l, pay); !slices.Equal(got, want) || e != api.OK {
			t.Error(l, pay, got, want, e)
		}
		var advances []int
		for owner := range want {
			advances = append(advances, r.Intn(50))
			want[owner] -= advances[owner]
		}
		if got, e := sack.Owed(l, advances, pay); !slices.Equal(got, want) || e != api.OK {
			t.Error(l, advances, pay, got, want, e)
		}
	})
}

// P6.6: divisors of many sharings, which need not be those of Share.
func TestDivisorMany(t *testing.T) {
	var found, none, divides int
	forMany(t, 2000, func(r *rand.Rand, l sack.Load) {
		o := slow{l}
		sharing := make([]int, 6)
		if len(l.Sacks) > 0 {
			sharing = o.share(r.Intn(12))
		}
		for range r.Intn(2) {
			sharing[r.Intn(6)] += r.Intn(2)
		}
		want, is := o.divisor(sharing)
		d, e := sack.Divisor(l, sharing)
		if (e == api.OK) != is || !is && (e != api.ErrNone || d != ratio(0, 0)) || is && (!isLowest(d) || d.Num*want.Den != want.Num*d.Den) {
			t.Error(l, sharing, d, want, e)
		}
		if is {
			found++
		} else if sumOf(sharing) > 0 {
			none++
		}
		some := ratio(1+r.Intn(40), 1+r.Intn(6))
		if is, e := sack.Divides(l, sharing, some); is != o.divides(sharing, some) || e != api.OK {
			t.Error(l, sharing, some, is, e)
		} else if is {
			divides++
		}
	})
	if found < 500 || none < 100 || divides < 100 {
		t.Error("too few sharings of a kind to show anything", found, none, divides)
	}
}
