package sack

import (
	"iter"
	"slices"

	"laurel/api"
)

// tooMany stands for the carts of a set that no carts can take: more than any other set needs.
const tooMany = MaxSacks + 1

// scale tells what sets of sacks come to: their weights, or their prices.
type scale struct {
	comesTo func(sacks set) int
}

func (w *work) weighed() scale {
	return scale{comesTo: func(sacks set) int { return w.weights[sacks] }}
}

func priced(p Prices) scale {
	prices := sums(p.Sacks)
	return scale{comesTo: func(sacks set) int { return prices[sacks] }}
}

// most returns of some sets and the empty one that which comes to most, of several the first one in lexicographic order, and what it comes to.
func (s scale) most(sets iter.Seq[set]) (best set, most int) {
	for sacks := range sets {
		sum := s.comesTo(sacks)
		if sum > most || sum == most && slices.Compare(sacks.list(), best.list()) < 0 {
			best, most = sacks, sum
		}
	}
	return best, most
}

// all returns the set of all sacks.
func (w *work) all() set { return just(len(w.Sacks)) - 1 }

// setOf returns the set of a list of sacks, or the error of the list.
func (w *work) setOf(list []int) (set, api.Errno) {
	var sacks set
	for _, sack := range list {
		if !w.isSack(sack) {
			return 0, api.ErrMissing
		}
		if sacks.has(sack) {
			return 0, api.ErrAgain
		}
		sacks |= just(sack)
	}
	return sacks, api.OK
}

// bundles returns all bundles, in the order of their first sacks.
func (w *work) bundles() []set {
	var out []set
	for sack := range len(w.Sacks) {
		if bundle := w.bundleOf[sack]; bundle.first() == sack {
			out = append(out, bundle)
		}
	}
	return out
}

// stuck returns the first sacks of the bundles that cannot go.
func (w *work) stuck() []int {
	var out []int
	for _, bundle := range w.bundles() {
		if !w.isRight(bundle) {
			out = append(out, bundle.first())
		}
	}
	return out
}

// isRight reports whether a cart is right.
func (w *work) isRight(cart set) bool {
	return w.weights[cart] <= w.Bears && w.isWhole(cart) && !slices.ContainsFunc(w.Apart, cart.hasBoth)
}

// isWhole reports whether a cart has each bundle wholly, or not at all.
func (w *work) isWhole(cart set) bool {
	for sack := range len(w.Sacks) {
		if cart.has(sack) && !cart.hasAll(w.bundleOf[sack]) {
			return false
		}
	}
	return true
}

func (s set) hasBoth(pair [2]int) bool { return s.has(pair[0]) && s.has(pair[1]) }

// carts yields all right carts that have some sacks of a set, and no others.
func (w *work) carts(sacks set) iter.Seq[set] {
	return func(yield func(set) bool) {
		for cart := sacks; cart > 0; cart = (cart - 1) & sacks {
			if w.isRight(cart) && !yield(cart) {
				return
			}
		}
	}
}

// fewest returns how many carts a set needs at least. One of them has the first sack, so that it is enough to try those.
func (w *work) fewest(sacks set) int {
	if sacks == 0 {
		return 0
	}
	if carts, known := w.needs[sacks]; known {
		return carts
	}
	least := tooMany
	for cart := range w.carts(sacks) {
		if cart.has(sacks.first()) {
			least = min(least, 1+w.fewest(sacks&^cart))
		}
	}
	w.needs[sacks] = least
	return least
}

// loads yields all sets of sacks that go on so many carts.
func (w *work) loads(carts int) iter.Seq[set] {
	return func(yield func(set) bool) {
		for sacks := range w.all() + 1 {
			if w.fewest(sacks) <= carts && !yield(sacks) {
				return
			}
		}
	}
}

// loading returns the first right loading on so many carts, which must be enough.
// Bundles are loaded wholly, in the order of their first sacks: two loadings of them differ first at such a sack.
func (w *work) loading(carts int) []int {
	on := make([]set, carts)
	var load func(bundles []set) bool
	load = func(bundles []set) bool {
		if len(bundles) == 0 {
			return true
		}
		for cart, before := range on {
			on[cart] = before | bundles[0]
			if w.isRight(on[cart]) && load(bundles[1:]) {
				return true
			}
			on[cart] = before
			if before == 0 {
				return false
			}
		}
		return false
	}
	load(w.bundles())
	return w.numbered(on)
}

// numbered returns the numbers of the carts that all sacks are on.
func (w *work) numbered(on []set) []int {
	var loading []int
	for sack := range len(w.Sacks) {
		loading = append(loading, slices.IndexFunc(on, func(cart set) bool { return cart.has(sack) }))
	}
	return loading
}

// cartsOf returns the carts of a loading by their numbers.
func cartsOf(loading []int) [MaxSacks]set {
	var on [MaxSacks]set
	for sack, cart := range loading {
		on[cart] |= just(sack)
	}
	return on
}

// isNumbered reports whether the carts of a loading are numbered in the order of their first sacks.
func isNumbered(loading []int) bool {
	next := 0
	for _, cart := range loading {
		if cart > next {
			return false
		}
		if cart == next {
			next++
		}
	}
	return true
}

// isFair reports whether prices are right.
func (w *work) isFair(p Prices) bool {
	_, most := priced(p).most(w.carts(w.all()))
	return most <= p.Unit
}

// bearing returns the load with carts that bear so much; its lists are copies, as the given ones must stay.
func (w *work) bearing(bears int) *work {
	l := w.Load
	l.Bears = bears
	l.Sacks = slices.Clone(w.Sacks)
	l.Apart, l.With = slices.Clone(w.Apart), slices.Clone(w.With)
	return put(l)
}

// bigger returns the least that a cart must bear so that all sacks go on so many carts, or an error if there is none.
func (w *work) bigger(carts int) (int, api.Errno) {
	least, e := 0, api.ErrNone
search:
	for bears := 1; bears <= MaxMeasures; bears++ {
		x := w.bearing(bears)
		switch {
		case x.weights[x.all()] > carts*bears || len(x.stuck()) > 0: // spares the search for carts, which would find none
		case x.fewest(x.all()) <= carts:
			least, e = bears, api.OK
			break search
		}
	}
	return least, e
}
