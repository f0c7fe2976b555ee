package sack

import (
	"math/bits"

	"laurel/api"
)

// set is a set of sacks, with a bit for each.
type set uint

// just returns the set of one sack.
func just(sack int) set { return 1 << sack }

func (s set) has(sack int) bool { return s.hasAll(just(sack)) }

func (s set) hasAll(sacks set) bool { return s&sacks == sacks }

// first returns the first sack of a set that is not empty.
func (s set) first() int { return bits.TrailingZeros(uint(s)) }

// list returns the sacks of a set, in increasing order.
func (s set) list() []int {
	var list []int
	for sack := range MaxSacks {
		if s.has(sack) {
			list = append(list, sack)
		}
	}
	return list
}

// work is a load that is at work, with the weights of all sets, the bundle of each sack, and how many carts sets need.
type work struct {
	Load
	weights  [1 << MaxSacks]int
	bundleOf [MaxSacks]set
	needs    map[set]int
}

// begin puts a load to work, or returns its error.
func begin(l Load) (*work, api.Errno) {
	if e := Check(l); e != api.OK {
		return nil, e
	}
	return put(l), api.OK
}

// put puts a load to work that is allowed.
func put(l Load) *work {
	w := &work{Load: l, needs: map[set]int{}}
	var weights []int
	for _, s := range l.Sacks {
		weights = append(weights, s.Measures-s.Measures*l.Shrink/100)
	}
	w.weights = sums(weights)
	w.bind()
	return w
}

// beginPrices puts a load to work for prices.
func beginPrices(l Load, p Prices) (*work, api.Errno) {
	w, e := begin(l)
	switch {
	case e != api.OK:
		return nil, e
	case len(p.Sacks) != len(w.Sacks):
		return nil, api.ErrMany
	case p.Unit < 1 || !isPrice(p.Unit) || !every(p.Sacks, isPrice):
		return nil, api.ErrLimit
	}
	return w, api.OK
}

// beginCarts puts a load to work for a number of carts.
func beginCarts(l Load, carts int) (*work, api.Errno) {
	w, e := begin(l)
	if e != api.OK {
		return nil, e
	}
	if !within(carts, 0, MaxSacks) {
		return nil, api.ErrLimit
	}
	return w, api.OK
}

// beginPennies puts a load to work for a list of what each owner has.
func beginPennies(l Load, pennies []int) (*work, api.Errno) {
	w, e := begin(l)
	switch {
	case e != api.OK:
		return nil, e
	case len(pennies) != MaxOwners:
		return nil, api.ErrMany
	case !every(pennies, isPay):
		return nil, api.ErrLimit
	}
	return w, api.OK
}

// sums returns what the numbers of sacks come to in each set.
func sums(numbers []int) [1 << MaxSacks]int {
	var out [1 << MaxSacks]int
	for sacks := set(1); sacks < just(len(numbers)); sacks++ {
		first := sacks.first()
		out[sacks] = numbers[first] + out[sacks&^just(first)]
	}
	return out
}

// bind finds the bundle of each sack: those of two sacks that are together grow to one, until none grows.
func (w *work) bind() {
	for sack := range len(w.Sacks) {
		w.bundleOf[sack] = just(sack)
	}
	for {
		before := w.bundleOf
		for _, pair := range w.With {
			both := w.bundleOf[pair[0]] | w.bundleOf[pair[1]]
			w.bundleOf[pair[0]], w.bundleOf[pair[1]] = both, both
		}
		if w.bundleOf == before {
			return
		}
	}
}

// every reports whether all elements of a list are what they are asked to be.
func every[T any](list []T, is func(T) bool) bool {
	for _, x := range list {
		if !is(x) {
			return false
		}
	}
	return true
}

// sizesError returns the error of a list of sizes.
func sizesError(sizes []int) api.Errno {
	switch {
	case len(sizes) > MaxMeasures:
		return api.ErrMany
	case !every(sizes, isSize):
		return api.ErrLimit
	}
	return api.OK
}

// keeps returns how many sizes a gauge keeps.
func keeps(sizes []int, gauge int) int {
	many := 0
	for _, size := range sizes {
		if size >= gauge {
			many++
		}
	}
	return many
}

func (w *work) countsAllowed() bool {
	return len(w.Sacks) <= MaxSacks && len(w.Apart) <= MaxPairs && len(w.With) <= MaxPairs
}

func (w *work) numbersAllowed() bool {
	return within(w.Bears, 1, MaxMeasures) && within(w.Shrink, 0, 90) && every(w.Sacks, isAllowed)
}

func isAllowed(s Sack) bool {
	return within(s.Measures, 1, MaxMeasures) && within(s.Owner, 0, MaxOwners-1)
}

// everyPair reports whether the pairs of both lists are what they are asked to be.
func (w *work) everyPair(are func(pair [2]int) bool) bool {
	return every(w.Apart, are) && every(w.With, are)
}

func (w *work) hasSacks(pair [2]int) bool { return every(pair[:], w.isSack) }

func areTwo(pair [2]int) bool { return pair[0] != pair[1] }

func (w *work) isSack(sack int) bool { return within(sack, 0, len(w.Sacks)-1) }

func isSize(size int) bool { return within(size, 1, MaxSize) }

func isCart(cart int) bool { return within(cart, 0, MaxSacks-1) }

func isPrice(price int) bool { return within(price, 0, MaxPrice) }

func isPay(pennies int) bool { return within(pennies, 0, MaxPay) }

func within(n, least, most int) bool { return least <= n && n <= most }
