package tide_test

import (
	"math"
	"math/rand"
	"slices"
	"testing"

	"laurel/api"
	"laurel/tide"
)

// P1.6: looks of example 4, looks that clash, and the fewest that do.
func TestLooks(t *testing.T) {
	for i, x := range []struct {
		s     tide.Sands
		looks []tide.Look
		want  api.Span
		clash []int
	}{
		{two(), nil, span(-10, 20), nil},
		{two(), looks(), span(-10, 20), nil},
		{two(), looks(wet(120, 0)), span(1, 20), nil},
		{two(), looks(dry(120, 0)), span(-10, 0), nil},
		{two(), looks(dry(130, 0)), span(-10, -8), nil},
		{two(), looks(wet(120, 0), dry(130, 0)), api.Span{}, list(0, 1)},
		{two(), looks(wet(120, 0), wet(130, 0)), span(1, 20), nil},
		{two(), looks(wet(120, 0), dry(130, 1)), span(1, 12), nil},
		{two(), looks(dry(130, 1), wet(120, 0)), span(1, 12), nil},
		{two(), looks(wet(132, 0), dry(132, 0)), api.Span{}, list(0, 1)},
		{two(), looks(wet(98, 0)), span(20, 20), nil},
		{two(), looks(wet(97, 0)), api.Span{}, list(0)},
		{two(), looks(dry(132, 0)), span(-10, -10), nil},
		{two(), looks(dry(133, 0), dry(150, 1)), span(-10, -10), nil},
		{two(), looks(dry(134, 0)), api.Span{}, list(0)},
		{two(), looks(dry(0, 0), dry(360, 1)), api.Span{}, list(1)},
		{two(), looks(wet(120, 0), dry(120, 0), wet(0, 0)), api.Span{}, list(2)},                              // one look is fewer than two
		{two(), looks(wet(0, 0), dry(360, 0)), api.Span{}, list(0)},                                           // the first of two that are wrong alone
		{two(), looks(wet(120, 0), dry(120, 0), dry(130, 0)), api.Span{}, list(0, 1)},                         // 0 and 1 come before 0 and 2
		{two(), looks(wet(110, 0), dry(0, 0), dry(120, 0), wet(121, 0), dry(130, 0)), api.Span{}, list(0, 2)}, // and 0 and 2 before 2 and 3
		{two(), looks(dry(0, 0), wet(120, 0), dry(0, 0), dry(125, 0), wet(126, 0)), api.Span{}, list(1, 3)},
		{apart(), looks(dry(360, 0)), span(-10, 20), nil},
		{apart(), looks(wet(360, 0)), api.Span{}, list(0)},
		{apart(), looks(dry(360, 1), wet(0, 1)), api.Span{}, list(1)},
		{two(), slices.Repeat(looks(wet(120, 0)), 10), span(1, 20), nil},
		{two(), append(slices.Repeat(looks(wet(120, 0)), 9), dry(120, 0)), api.Span{}, list(0, 9)},
	} {
		e, f := api.OK, api.ErrNone
		if x.clash != nil {
			e, f = api.ErrClash, api.OK
		}
		left, e1 := tide.Looks(x.s, x.looks)
		clash, e2 := tide.Clash(x.s, x.looks)
		if left != x.want || !slices.Equal(clash, x.clash) || e1 != e || e2 != f {
			t.Error(i, left, clash, e1, e2)
		}
	}
}

// P1.6: the errors of looks, look by look.
func TestLooksErrors(t *testing.T) {
	many := slices.Repeat(looks(dry(0, 0)), 11)
	for i, x := range []struct {
		looks []tide.Look
		e     api.Errno
	}{
		{many, api.ErrMany},
		{append(looks(dry(-1, 2)), many...), api.ErrMany},
		{looks(dry(-1, 0)), api.ErrLimit},
		{looks(wet(701, 0)), api.ErrLimit},
		{looks(wet(math.MaxInt, 0)), api.ErrLimit},
		{looks(wet(math.MinInt, 0)), api.ErrLimit},
		{looks(wet(0, 2)), api.ErrMissing},
		{looks(wet(0, tide.Sea)), api.ErrMissing},
		{looks(wet(0, math.MaxInt)), api.ErrMissing},
		{looks(wet(0, math.MinInt)), api.ErrMissing},
		{looks(dry(701, 2)), api.ErrLimit},
		{looks(dry(0, 2), dry(701, 0)), api.ErrMissing}, // the first look with an error decides
		{looks(dry(701, 0), dry(0, 2)), api.ErrLimit},
		{looks(dry(0, 0), dry(0, 2), dry(701, 0)), api.ErrMissing},
		{looks(wet(0, 0), dry(360, 0), dry(0, 2)), api.ErrMissing}, // before it is asked what the looks say
		{append(many[:9:9], dry(701, 0)), api.ErrLimit},
		{append(many[:9:9], dry(0, 2)), api.ErrMissing},
	} {
		left, e := tide.Looks(two(), x.looks)
		clash, f := tide.Clash(two(), x.looks)
		if !zero(left, clash) || e != x.e || f != x.e {
			t.Error(i, left, clash, e, f)
		}
	}
}

// agrees reports whether a truth agrees with a look.
func (o slow) agrees(gates []int, truth int, x tide.Look) bool {
	return (o.height(x.Minute)+truth > gates[x.Place]) == x.Wet
}

// truths returns all truths that agree with looks.
func (o slow) truths(gates []int, looks []tide.Look) []int {
	var out []int
	for truth := o.Wind.Lo; truth <= o.Wind.Hi; truth++ {
		if !slices.ContainsFunc(looks, func(x tide.Look) bool { return !o.agrees(gates, truth, x) }) {
			out = append(out, truth)
		}
	}
	return out
}

// clash tries all lists of looks.
func (o slow) clash(gates []int, looks []tide.Look) []int {
	var best []int
	for bits := range 1 << len(looks) {
		l := subset(bits)
		var some []tide.Look
		for _, i := range l {
			some = append(some, looks[i])
		}
		if len(o.truths(gates, some)) > 0 {
			continue
		}
		if best == nil || len(l) < len(best) || len(l) == len(best) && slices.Compare(l, best) < 0 {
			best = l
		}
	}
	return best
}

// P1.6: Looks and Clash of many looks.
func TestLooksMany(t *testing.T) {
	clashes := map[int]int{}
	forMany(t, 1500, func(r *rand.Rand, o slow) {
		gates := o.gates()
		var looks []tide.Look
		for range r.Intn(8) {
			look := tide.Look{Minute: o.day()[r.Intn(len(o.day()))], Place: r.Intn(len(o.Floors)), Wet: true}
			// Most looks are such that some truth agrees, so that it often takes two of them to clash.
			if agree := len(o.truths(gates, []tide.Look{look})); agree == 0 || agree <= o.Wind.Hi-o.Wind.Lo && r.Intn(2) == 0 {
				look.Wet = r.Intn(20) == 0
			}
			looks = append(looks, look)
		}
		checkLooks(t, o, gates, looks)
		clashes[len(o.clash(gates, looks))]++
	})
	for n := range 3 {
		if clashes[n] < 20 {
			t.Error("too few lists of this kind to show anything", n, clashes)
		}
	}
}

func checkLooks(t *testing.T, o slow, gates []int, looks []tide.Look) {
	t.Helper()
	truths, clash := o.truths(gates, looks), o.clash(gates, looks)
	want, e, f := api.Span{}, api.ErrClash, api.OK
	if len(truths) > 0 {
		want, e, f = span(truths[0], truths[len(truths)-1]), api.OK, api.ErrNone
		if want.Hi-want.Lo+1 != len(truths) {
			t.Error("a truth between does not agree", o, looks, truths)
		}
	}
	left, e1 := tide.Looks(o.Sands, looks)
	got, e2 := tide.Clash(o.Sands, looks)
	if left != want || !slices.Equal(got, clash) || e1 != e || e2 != f {
		t.Error(o, looks, left, want, got, clash, e1, e2)
	}
}

// P1.6: looks that settle most, the first of several, and one truth alone.
func TestAsk(t *testing.T) {
	rise := tide.Sands{
		Table: []tide.Water{{Minute: 0, Height: 100}, {Minute: 10, Height: 120}}, Wind: span(0, 9),
		Floors: list(110), Sills: []tide.Sill{{A: 0, B: tide.Sea, Height: 3}},
	}
	flat := rise
	flat.Table = []tide.Water{{Minute: 5, Height: 100}, {Minute: 10, Height: 100}}
	flat.Floors = list(102, 106, 105)
	flat.Sills = []tide.Sill{{A: 0, B: tide.Sea, Height: 3}, {A: 1, B: tide.Sea, Height: 3}, {A: 2, B: tide.Sea, Height: 3}}
	same := flat
	same.Floors = list(106, 102, 106)
	odd := rise
	odd.Wind = span(0, 8)
	pair := rise
	pair.Wind, pair.Floors = span(-1, 0), list(111)
	whole := pair
	whole.Floors = list(110)
	dead := rise
	dead.Sills = nil
	one := rise
	one.Wind = span(4, 4)
	for i, x := range []struct {
		s    tide.Sands
		want tide.Look
		n    int
		e    api.Errno
	}{
		{rise, wet(3, 0), 5, api.OK}, // 5 to 9
		{odd, wet(3, 0), 5, api.OK},  // 5 to 8, before 4 to 8 at no minute
		{pair, wet(6, 0), 1, api.OK},
		{whole, wet(0, 0), 2, api.OK}, // no look tells both truths apart
		{flat, wet(5, 2), 6, api.OK},  // 6 to 9
		{same, wet(5, 0), 7, api.OK},
		{dead, wet(0, 0), 10, api.OK},
		{one, tide.Look{}, 0, api.ErrNone},
	} {
		if got, n, e := tide.Ask(x.s); got != x.want || n != x.n || e != x.e {
			t.Error(i, got, n, e)
		}
	}
}

// P1.6: Ask of many sands.
func TestAskMany(t *testing.T) {
	forMany(t, 300, func(_ *rand.Rand, o slow) {
		gates := o.gates()
		all := o.Wind.Hi - o.Wind.Lo + 1
		want, fewest, e := tide.Look{}, 0, api.ErrNone
		for _, minute := range o.day() {
			for place := range o.Floors {
				agree := len(o.truths(gates, looks(wet(minute, place))))
				if most := max(agree, all-agree); all > 1 && (e != api.OK || most < fewest) {
					want, fewest, e = wet(minute, place), most, api.OK
				}
			}
		}
		if got, n, f := tide.Ask(o.Sands); got != want || n != fewest || f != e {
			t.Error(o, got, n, f, want, fewest, e)
		}
	})
}
