package tide_test

import (
	"fmt"
	"math"
	"math/rand"
	"slices"
	"testing"

	"laurel/api"
	"laurel/tide"
)

// ring has two ways to each place; sill 0 is lower than sill 5, which joins the same.
func ring() tide.Sands {
	s := two()
	s.Floors = list(10, 20, 30)
	s.Sills = []tide.Sill{
		{A: tide.Sea, B: 0, Height: 90}, {A: 1, B: 0, Height: 40}, {A: 1, B: 2, Height: 70},
		{A: 2, B: tide.Sea, Height: 50}, {A: 0, B: 2, Height: 60}, {A: tide.Sea, B: 0, Height: 95},
	}
	return s
}

// chain has all places in a row, and none but the last one at the Sea.
func chain() tide.Sands {
	s := two()
	s.Floors = list(7, 6, 5, 4, 3, 2, 1, 0)
	s.Sills = []tide.Sill{{A: tide.Sea, B: 7, Height: 1}}
	for i := range 7 {
		s.Sills = append(s.Sills, tide.Sill{A: 6 - i, B: 7 - i, Height: 2})
	}
	return s
}

// P1.2: gates, and the only ways that have them.
func TestGateAndWay(t *testing.T) {
	for i, x := range []struct {
		s           tide.Sands
		place, gate int
		way         []int
	}{
		{two(), 0, 200, list(0)},
		{two(), 1, 220, list(0, 1)},
		{ring(), 0, 60, list(3, 4)},
		{ring(), 1, 60, list(3, 4, 1)},
		{ring(), 2, 50, list(3)},
		{chain(), 7, 1, list(0)},
		{chain(), 5, 2, list(0, 1, 2)},
		{chain(), 0, 7, list(0, 1, 2, 3, 4, 5, 6, 7)},
		{hills(), 0, 130, list(0)},
		{hills(), 1, 150, list(0, 1)},
	} {
		gate, e := tide.Gate(x.s, x.place)
		way, f := tide.Way(x.s, x.place)
		crest, g := tide.Crest(x.s, x.place, way)
		if gate != x.gate || !slices.Equal(way, x.way) || crest != gate || e != api.OK || f != api.OK || g != api.OK {
			t.Error(i, gate, way, crest, e, f, g)
		}
	}
}

// P1.2: gates at the limits of heights are gates.
func TestGateLimits(t *testing.T) {
	s := two()
	for _, x := range [][3]int{{0, 0, 0}, {999, 0, 999}, {0, 999, 999}, {999, 999, 999}} {
		s.Floors = list(x[0])
		s.Sills = []tide.Sill{{A: tide.Sea, B: 0, Height: x[1]}}
		gate, e := tide.Gate(s, 0)
		way, f := tide.Way(s, 0)
		sills, places, g := tide.Bank(s, 0)
		height, h := tide.Hold(s, 0, sills, places)
		if gate != x[2] || height != x[2] || !slices.Equal(way, list(0)) || e != api.OK || f != api.OK || g != api.OK || h != api.OK {
			t.Error(x, gate, way, sills, places, height, e, f, g, h)
		}
	}
}

// P1.2, P1.3: ErrMissing, then ErrNone.
func TestGateErrors(t *testing.T) {
	none := apart()
	none.Sills = nil
	for i, x := range []struct {
		s     tide.Sands
		place int
		e     api.Errno
	}{
		{two(), 2, api.ErrMissing}, {two(), -1, api.ErrMissing}, {two(), math.MaxInt, api.ErrMissing}, {two(), math.MinInt, api.ErrMissing},
		{apart(), 2, api.ErrMissing}, {apart(), 0, api.ErrNone}, {apart(), 1, api.ErrNone}, {none, 0, api.ErrNone}, {none, 2, api.ErrMissing},
	} {
		gate, e := tide.Gate(x.s, x.place)
		way, f := tide.Way(x.s, x.place)
		sills, places, g := tide.Bank(x.s, x.place)
		if !zero(gate, way, sills, places) || e != x.e || f != x.e || g != x.e {
			t.Error(i, gate, way, sills, places, e, f, g)
		}
	}
}

// P1.2: crests of ways, and lists that are none.
func TestCrest(t *testing.T) {
	for i, x := range []struct {
		s     tide.Sands
		place int
		way   []int
		crest int
		e     api.Errno
	}{
		{two(), 1, list(0, 1), 220, api.OK},
		{two(), 1, list(2), 300, api.OK},
		{two(), 0, list(2, 1), 300, api.OK},
		{two(), 0, list(0), 200, api.OK},
		{ring(), 1, list(0, 1), 90, api.OK},
		{ring(), 1, list(5, 4, 2), 95, api.OK},
		{two(), 0, list(0, 1), 0, api.ErrWrong},          // leads to the other place
		{two(), 1, list(1), 0, api.ErrWrong},             // does not begin in the Sea
		{two(), 0, nil, 0, api.ErrWrong},                 // leads nowhere
		{two(), 0, list(), 0, api.ErrWrong},              //
		{two(), 0, list(0, 0), 0, api.ErrWrong},          // goes back to the Sea
		{two(), 0, list(0, 0, 0), 0, api.ErrWrong},       //
		{two(), 0, list(0, 1, 1), 0, api.ErrWrong},       // reaches place 0 twice
		{two(), 1, list(0, 1, 2, 0, 1), 0, api.ErrWrong}, // reaches the Sea between
		{ring(), 0, list(0, 4, 2, 1), 0, api.ErrWrong},   // goes around
		{ring(), 1, list(0, 2), 0, api.ErrWrong},         // leaves a gap
		{ring(), 0, list(0, 5), 0, api.ErrWrong},         //
		{apart(), 0, list(0), 0, api.ErrWrong},           //
		{two(), 1, list(0, 3), 0, api.ErrMissing},        //
		{two(), 1, list(-1), 0, api.ErrMissing},          //
		{two(), 0, list(1, 1, 3), 0, api.ErrMissing},     // is no way either
		{two(), 0, list(math.MaxInt), 0, api.ErrMissing}, //
		{two(), 0, list(math.MinInt), 0, api.ErrMissing}, //
		{two(), 2, list(9), 0, api.ErrMissing},           //
		{two(), 2, list(0), 0, api.ErrMissing},           //
		{two(), -1, nil, 0, api.ErrMissing},              // no way leads to the Sea
		{two(), 2, nil, 0, api.ErrMissing},               //
		{two(), 0, slices.Repeat(list(0), 100000), 0, api.ErrWrong},
	} {
		if crest, e := tide.Crest(x.s, x.place, x.way); crest != x.crest || e != x.e {
			t.Error(i, crest, e)
		}
	}
}

// checkGates holds gates, ways and banks of sands against all ways that there are.
func checkGates(t *testing.T, o slow) {
	t.Helper()
	for place := range o.Floors {
		want, ok := o.gate(place)
		e := api.OK
		if !ok {
			e = api.ErrNone
		}
		gate, e1 := tide.Gate(o.Sands, place)
		way, e2 := tide.Way(o.Sands, place)
		sills, places, e3 := tide.Bank(o.Sands, place)
		if gate != want || e1 != e || e2 != e || e3 != e {
			t.Error(o, place, gate, want, e1, e2, e3)
		}
		if !ok {
			continue
		}
		ways := o.ways(place)
		if !slices.ContainsFunc(ways, func(w []int) bool { return slices.Equal(w, way) }) || o.crest(way) != gate {
			t.Error(o, place, way, gate)
		}
		if !isBank(o, ways, sills, places) || bankHeight(o, sills, places) != gate || !increasing(sills) || !increasing(places) {
			t.Error(o, place, sills, places, gate)
		}
		if height, e := tide.Hold(o.Sands, place, sills, places); height != gate || e != api.OK {
			t.Error(o, place, sills, places, height, e)
		}
	}
}

func increasing(l []int) bool {
	for i := range l {
		if i > 0 && l[i-1] >= l[i] {
			return false
		}
	}
	return true
}

func isBank(o slow, ways [][]int, sills, places []int) bool {
	for _, way := range ways {
		hasSill := slices.ContainsFunc(way, func(i int) bool { return slices.Contains(sills, i) })
		hasPlace := slices.ContainsFunc(o.over(way), func(p int) bool { return slices.Contains(places, p) })
		if !hasSill && !hasPlace {
			return false
		}
	}
	return true
}

func bankHeight(o slow, sills, places []int) int {
	height := 1000
	for _, i := range sills {
		height = min(height, o.Sills[i].Height)
	}
	for _, p := range places {
		height = min(height, o.Floors[p])
	}
	return height
}

// P1.2, P1.3: gates, ways and banks of many sands, small ones and those with as much as is allowed.
func TestGatesMany(t *testing.T) {
	forMany(t, 500, func(_ *rand.Rand, o slow) { checkGates(t, o) })
	r := rand.New(rand.NewSource(2))
	for range 40 {
		checkGates(t, slow{anySands(r, 8, 16)})
	}
}

// P1.2: Crest of all short lists of sills.
func TestCrestMany(t *testing.T) {
	forMany(t, 60, func(_ *rand.Rand, o slow) {
		for place := range o.Floors {
			ways := map[string]bool{}
			for _, way := range o.ways(place) {
				ways[fmt.Sprint(way)] = true
			}
			for _, way := range lists(len(o.Sills), 3) {
				crest, e := tide.Crest(o.Sands, place, way)
				if ways[fmt.Sprint(way)] {
					if crest != o.crest(way) || e != api.OK {
						t.Error(o, place, way, crest, e)
					}
				} else if crest != 0 || e != api.ErrWrong {
					t.Error(o, place, way, crest, e)
				}
			}
		}
	})
}

// lists returns all lists of numbers below n that are not longer than most.
func lists(n, most int) [][]int {
	out := [][]int{nil}
	for from := 0; most > 0; most-- {
		to := len(out)
		for _, l := range out[from:to] {
			for i := range n {
				out = append(out, append(slices.Clone(l), i))
			}
		}
		from = to
	}
	return out
}

// P1.3: banks and their heights, lists that are none, and the order of errors.
func TestHold(t *testing.T) {
	for i, x := range []struct {
		s             tide.Sands
		place         int
		sills, places []int
		height        int
		e             api.Errno
	}{
		{two(), 1, nil, list(1), 220, api.OK},
		{two(), 1, list(0, 2), nil, 200, api.OK},
		{two(), 1, list(2, 1), nil, 160, api.OK},
		{two(), 1, list(2), list(0), 180, api.OK},
		{two(), 0, list(0, 1), nil, 160, api.OK},
		{two(), 0, list(0), list(1), 200, api.OK},
		{two(), 0, nil, list(1, 0), 180, api.OK},
		{two(), 0, list(0, 1, 2), list(0, 1), 160, api.OK},
		{two(), 0, list(0), list(), 0, api.ErrWrong},
		{two(), 0, nil, list(1), 0, api.ErrWrong},
		{two(), 0, nil, nil, 0, api.ErrWrong},
		{two(), 1, list(), list(), 0, api.ErrWrong},
		{two(), 1, list(0, 1), nil, 0, api.ErrWrong},
		{two(), 1, nil, list(0), 0, api.ErrWrong},
		{apart(), 0, nil, nil, 0, api.ErrNone},
		{apart(), 1, list(), list(), 0, api.ErrNone},
		{apart(), 0, list(0), nil, 160, api.OK},
		{apart(), 0, nil, list(1), 220, api.OK},
		{apart(), 0, list(0), list(1), 160, api.OK},
		{two(), 0, list(0, 3), list(1), 0, api.ErrMissing},
		{two(), 0, list(-1), nil, 0, api.ErrMissing},
		{two(), 0, nil, list(2), 0, api.ErrMissing},
		{two(), 0, nil, list(0, tide.Sea), 0, api.ErrMissing},
		{two(), 0, list(math.MaxInt), list(math.MinInt), 0, api.ErrMissing},
		{two(), 0, list(0, 0), list(2), 0, api.ErrMissing},
		{two(), 0, list(3), list(0, 0), 0, api.ErrMissing},
		{two(), 0, list(3, 3), nil, 0, api.ErrMissing},
		{two(), 2, list(0, 0), nil, 0, api.ErrMissing},
		{two(), 2, nil, nil, 0, api.ErrMissing},
		{apart(), -1, nil, nil, 0, api.ErrMissing},
		{two(), 0, list(1, 0, 1), nil, 0, api.ErrAgain},
		{two(), 0, list(1, 1), nil, 0, api.ErrAgain},
		{two(), 0, nil, list(1, 1), 0, api.ErrAgain},
		{two(), 0, list(0), list(0, 1, 0), 0, api.ErrAgain},
		{two(), 0, list(2, 2), list(1), 0, api.ErrAgain},
	} {
		if height, e := tide.Hold(x.s, x.place, x.sills, x.places); height != x.height || e != x.e {
			t.Error(i, height, e)
		}
	}
}

// P1.3: a sill and a place of the same number are not the same.
func TestHoldNumbers(t *testing.T) {
	if height, e := tide.Hold(ring(), 2, list(0, 2, 3, 4, 5), list(0, 2)); height != 10 || e != api.OK {
		t.Error(height, e)
	}
}

// subset returns the numbers of the bits that are set.
func subset(bits int) []int {
	var out []int
	for i := 0; bits>>i > 0; i++ {
		if bits>>i&1 == 1 {
			out = append(out, i)
		}
	}
	return out
}

// P1.3: Hold of all sets of sills and places.
func TestHoldMany(t *testing.T) {
	r := rand.New(rand.NewSource(3))
	for range 60 {
		o := slow{anySands(r, 3, 5)}
		for place := range o.Floors {
			ways := o.ways(place)
			for bits := range 1 << len(o.Sills) {
				for more := range 1 << len(o.Floors) {
					sills, places := subset(bits), subset(more)
					want, e := 0, api.OK
					switch {
					case !isBank(o, ways, sills, places):
						e = api.ErrWrong
					case bits == 0 && more == 0:
						e = api.ErrNone
					default:
						want = bankHeight(o, sills, places)
					}
					slices.Reverse(sills)
					if height, f := tide.Hold(o.Sands, place, sills, places); height != want || f != e {
						t.Fatal(o, place, sills, places, height, want, f, e)
					}
				}
			}
		}
	}
}
