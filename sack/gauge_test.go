package sack_test

import (
	"math"
	"math/rand"
	"slices"
	"testing"

	"laurel/api"
	"laurel/sack"
)

// P6.1: sizes that are kept, and those that go through, in the order in which they were passed.
func TestRiddle(t *testing.T) {
	hundred := append(slices.Repeat(list(3, 40), 49), 1, 2)
	for i, x := range []struct {
		sizes         []int
		gauge         int
		kept, through []int
	}{
		{list(12, 20, 19, 25), 20, list(20, 25), list(12, 19)}, // example 1
		{list(12, 20, 19, 25), 21, list(25), list(12, 20, 19)},
		{list(25, 12, 20, 19), 19, list(25, 20, 19), list(12)},
		{list(12, 20, 19, 25), 1, list(12, 20, 19, 25), nil},
		{list(12, 20, 19, 25), 40, nil, list(12, 20, 19, 25)},
		{list(40, 1, 40, 1, 39), 40, list(40, 40), list(1, 1, 39)},
		{list(1), 1, list(1), nil},
		{nil, 20, nil, nil},
		{list(), 1, nil, nil},
		{hundred, 4, slices.Repeat(list(40), 49), append(slices.Repeat(list(3), 49), 1, 2)},
	} {
		kept, through, e := sack.Riddle(x.sizes, x.gauge)
		if !slices.Equal(kept, x.kept) || !slices.Equal(through, x.through) || e != api.OK {
			t.Error(i, kept, through, e)
		}
	}
}

// P6.1: the least gauge that keeps at most so many.
func TestGauge(t *testing.T) {
	for i, x := range []struct {
		sizes   []int
		most, n int
		e       api.Errno
	}{
		{list(12, 20, 19, 25), 1, 21, api.OK}, // example 1
		{list(12, 20, 19, 25), 0, 26, api.OK},
		{list(12, 20, 19, 25), 2, 20, api.OK},
		{list(12, 20, 19, 25), 3, 13, api.OK},
		{list(12, 20, 19, 25), 4, 1, api.OK},
		{list(12, 20, 19, 25), math.MaxInt, 1, api.OK},
		{list(7, 7, 7), 2, 8, api.OK},
		{list(7, 7, 7), 3, 1, api.OK},
		{list(39), 0, 40, api.OK},
		{list(40, 39), 1, 40, api.OK},
		{list(40), 0, 0, api.ErrNone},
		{list(40, 12, 40), 1, 0, api.ErrNone},
		{list(40, 12, 40), 2, 13, api.OK},
		{slices.Repeat(list(40), 100), 99, 0, api.ErrNone},
		{slices.Repeat(list(40), 100), 100, 1, api.OK},
		{nil, 0, 1, api.OK},
		{list(), 3, 1, api.OK},
	} {
		if n, e := sack.Gauge(x.sizes, x.most); n != x.n || e != x.e {
			t.Error(i, n, e)
		}
	}
}

// P6.1, R1, R2: too many sizes come before those that are not allowed, wherever they stand.
func TestGaugeErrors(t *testing.T) {
	for i, x := range []struct {
		sizes []int
		e     api.Errno
	}{
		{nil, api.OK},
		{list(1, 40), api.OK},
		{slices.Repeat(list(5), 100), api.OK},
		{slices.Repeat(list(5), 101), api.ErrMany},
		{slices.Repeat(list(41), 101), api.ErrMany},
		{slices.Repeat(list(0), 200000), api.ErrMany},
		{list(0), api.ErrLimit},
		{list(41), api.ErrLimit},
		{list(5, 5, -1), api.ErrLimit},
		{list(41, 5, 5), api.ErrLimit},
		{list(5, math.MinInt), api.ErrLimit},
		{list(math.MaxInt, 5), api.ErrLimit},
		{append(slices.Repeat(list(5), 99), 41), api.ErrLimit},
	} {
		for _, n := range append(someOf(1, 40), 20) {
			want := x.e
			if want == api.OK && !isIn(n, 1, 40) {
				want = api.ErrLimit
			}
			if kept, through, e := sack.Riddle(x.sizes, n); e != want || e != api.OK && !zero(kept, through) {
				t.Error(i, n, kept, through, e, want)
			}
		}
		for _, n := range list(math.MinInt, -9, -1, 100, math.MaxInt) {
			want := x.e
			if want == api.OK && n < 0 {
				want = api.ErrLimit
			}
			if gauge, e := sack.Gauge(x.sizes, n); e != want || e != api.OK && gauge != 0 {
				t.Error(i, n, gauge, e, want)
			}
		}
	}
}

// P6.1: a gauge keeps at most so many, and no lesser one does.
func TestGaugeIsRiddle(t *testing.T) {
	r := rand.New(rand.NewSource(1))
	for range 300 {
		var sizes []int
		for range r.Intn(12) {
			sizes = append(sizes, 30+r.Intn(11))
		}
		most := r.Intn(6)
		least := 0
		for gauge := 40; gauge >= 1; gauge-- {
			kept, through, e := sack.Riddle(sizes, gauge)
			if len(kept)+len(through) != len(sizes) || e != api.OK {
				t.Error(sizes, gauge, kept, through, e)
			}
			if len(kept) <= most {
				least = gauge
			}
		}
		if n, e := sack.Gauge(sizes, most); n != least || (e == api.OK) != (least > 0) || least == 0 && e != api.ErrNone {
			t.Error(sizes, most, n, least, e)
		}
	}
}
