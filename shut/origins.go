package shut

import (
	"math/bits"
	"slices"
)

// origins is a set of origins: the tides of each bed, with a bit for each.
type origins [MaxBeds]uint16

func (s *origins) add(o Origin) { s[o.Bed] |= 1 << o.Tide }

func (s origins) has(o Origin) bool { return s[o.Bed]>>o.Tide&1 == 1 }

func (s origins) areNone() bool { return s == origins{} }

// inside returns the origins that others are, too.
func (s origins) inside(others origins) origins {
	for bed, tides := range others {
		s[bed] &= tides
	}
	return s
}

// outside returns the origins that no others are.
func (s origins) outside(others origins) origins {
	for bed, tides := range others {
		s[bed] &^= tides
	}
	return s
}

// and returns origins of both sets.
func (s origins) and(others origins) origins {
	for bed, tides := range others {
		s[bed] |= tides
	}
	return s
}

func (s origins) many() int {
	many := 0
	for _, tides := range s {
		many += bits.OnesCount16(tides)
	}
	return many
}

// list returns the origins by beds, then by tides.
func (s origins) list() []Origin {
	var list []Origin
	for bed := range MaxBeds {
		for tide := range MaxTides {
			if o := (Origin{Bed: bed, Tide: tide}); s.has(o) {
				list = append(list, o)
			}
		}
	}
	return list
}

// originsOf returns those of a sack.
func originsOf(x Sack) origins {
	var out origins
	for _, bed := range x.Beds {
		for tide := x.Tides.Lo; tide <= x.Tides.Hi; tide++ {
			out.add(Origin{Bed: bed, Tide: tide})
		}
	}
	return out
}

// bars returns the rains and drains that can close a bed at a tide.
func (w *work) bars(o Origin) []Bar {
	var bars []Bar
	for rain, r := range w.Rains {
		for drain, d := range w.Drains {
			if slices.Contains(d.Beds, o.Bed) && within(o.Tide-r.Tide, 0, d.Shuts-1) {
				bars = append(bars, Bar{Rain: rain, Drain: drain})
			}
		}
	}
	return bars
}

// findClosed finds what each fall of each rain closes.
func (w *work) findClosed() {
	for bed := range w.Beds {
		for tide := range w.Tides {
			o := Origin{Bed: bed, Tide: tide}
			for _, bar := range w.bars(o) {
				for fall := w.Drains[bar.Drain].Needs; fall <= MaxFall; fall++ {
					w.closes[bar.Rain][fall].add(o)
				}
			}
		}
	}
}

// closedIn returns when beds are closed by falls of all rains.
func (w *work) closedIn(at falls) origins {
	var closed origins
	for rain := range w.Rains {
		closed = closed.and(w.closes[rain][at[rain]])
	}
	return closed
}
