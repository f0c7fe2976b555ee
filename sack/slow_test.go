package sack_test

import (
	"slices"

	"laurel/api"
	"laurel/sack"
)

// slow answers from the chapter's terms, word for word.
type slow struct{ sack.Load }

// weight returns that of a sack: it loses whole measures, as long as these are not more than its hundredths.
func (o slow) weight(s int) int {
	m := o.Sacks[s].Measures
	lost := 0
	for (lost+1)*100 <= m*o.Shrink {
		lost++
	}
	return m - lost
}

func (o slow) weights() []int {
	var out []int
	for i := range o.Sacks {
		out = append(out, o.weight(i))
	}
	return out
}

// weigh adds the weights of listed sacks.
func (o slow) weigh(sacks []int) int {
	sum := 0
	for _, s := range sacks {
		sum += o.weight(s)
	}
	return sum
}

func hasPair(l [][2]int, a, b int) bool {
	return slices.Contains(l, [2]int{a, b}) || slices.Contains(l, [2]int{b, a})
}

// bundle returns that of a sack, by going on to sacks that are together with one that was met.
func (o slow) bundle(s int) []int {
	met := list(s)
	for i := 0; i < len(met); i++ {
		for other := range o.Sacks {
			if hasPair(o.With, met[i], other) && !slices.Contains(met, other) {
				met = append(met, other)
			}
		}
	}
	slices.Sort(met)
	return met
}

func (o slow) bundles() [][]int {
	var out [][]int
	for i := range o.Sacks {
		if b := o.bundle(i); b[0] == i {
			out = append(out, b)
		}
	}
	return out
}

// isLight reports whether listed sacks weigh no more than a cart bears, and no two of them are apart.
func (o slow) isLight(sacks []int) bool {
	for _, a := range sacks {
		for _, b := range sacks {
			if hasPair(o.Apart, a, b) {
				return false
			}
		}
	}
	return o.weigh(sacks) <= o.Bears
}

func (o slow) stuck() []int {
	var out []int
	for _, b := range o.bundles() {
		if !o.isLight(b) {
			out = append(out, b[0])
		}
	}
	return out
}

// isRight reports whether a cart is right.
func (o slow) isRight(cart []int) bool {
	for _, b := range o.bundles() {
		on := 0
		for _, s := range b {
			if slices.Contains(cart, s) {
				on++
			}
		}
		if on != 0 && on != len(b) {
			return false
		}
	}
	return o.isLight(cart)
}

// subsets returns all lists of numbers below another one, each in increasing order.
func subsets(below int) [][]int {
	out := [][]int{nil}
	for n := range below {
		for _, l := range slices.Clone(out) {
			out = append(out, append(slices.Clone(l), n))
		}
	}
	return out
}

// tuples returns all lists of so many numbers below another one.
func tuples(long, below int) [][]int {
	out := [][]int{nil}
	for range long {
		var longer [][]int
		for _, l := range out {
			for n := range below {
				longer = append(longer, append(slices.Clone(l), n))
			}
		}
		out = longer
	}
	return out
}

// isLoading reports whether a list is a loading.
func isLoading(l []int) bool {
	for i, n := range l {
		most := -1
		for _, before := range l[:i] {
			most = max(most, before)
		}
		if n > most+1 {
			return false
		}
	}
	return true
}

// loadings returns all loadings of so many sacks, in lexicographic order.
func loadings(sacks int) [][]int {
	out := [][]int{nil}
	for range sacks {
		var longer [][]int
		for _, l := range out {
			for n := range cartsIn(l) + 1 {
				longer = append(longer, append(slices.Clone(l), n))
			}
		}
		out = longer
	}
	return out
}

// cartsIn returns how many carts a loading has.
func cartsIn(loading []int) int {
	n := 0
	for _, cart := range loading {
		n = max(n, cart+1)
	}
	return n
}

// on returns the listed sacks that a loading of them has on a cart.
func on(sacks, loading []int, cart int) []int {
	var out []int
	for i, n := range loading {
		if n == cart {
			out = append(out, sacks[i])
		}
	}
	return out
}

// isLoaded reports whether all carts of a loading of listed sacks are right.
func (o slow) isLoaded(sacks, loading []int) bool {
	for cart := range cartsIn(loading) {
		if !o.isRight(on(sacks, loading, cart)) {
			return false
		}
	}
	return true
}

// all returns all sacks.
func (o slow) all() []int {
	var out []int
	for i := range o.Sacks {
		out = append(out, i)
	}
	return out
}

// fewest returns of all right loadings of listed sacks the first one of those with the fewest carts, and whether there is one.
func (o slow) fewest(sacks []int) ([]int, bool) {
	var best []int
	found := false
	for _, l := range loadings(len(sacks)) {
		if o.isLoaded(sacks, l) && (!found || cartsIn(l) < cartsIn(best)) {
			best, found = l, true
		}
	}
	return best, found
}

// best returns of all sets of sacks that go on so many carts the first one of the heaviest ones.
func (o slow) best(carts int) []int {
	var best []int
	for _, sacks := range subsets(len(o.Sacks)) {
		l, found := o.fewest(sacks)
		if !found || cartsIn(l) > carts {
			continue
		}
		if a, b := o.weigh(sacks), o.weigh(best); a > b || a == b && slices.Compare(sacks, best) < 0 {
			best = sacks
		}
	}
	return best
}

// bigger returns the least weight of the heaviest cart of loadings on so many carts, and whether there are such loadings.
func (o slow) bigger(carts int) (int, bool) {
	least, found := 0, false
	boundless := slow{bearing(o.Load, 1000000)}
	for _, l := range loadings(len(o.Sacks)) {
		if cartsIn(l) > carts || !boundless.isLoaded(o.all(), l) {
			continue
		}
		heaviest := 1
		for cart := range carts {
			heaviest = max(heaviest, o.weigh(on(o.all(), l, cart)))
		}
		if !found || heaviest < least {
			least, found = heaviest, true
		}
	}
	return least, found && least <= 100
}

// isFair reports whether prices are right.
func (o slow) isFair(p sack.Prices) bool {
	for _, cart := range subsets(len(o.Sacks)) {
		sum := 0
		for _, s := range cart {
			sum += p.Sacks[s]
		}
		if o.isRight(cart) && sum > p.Unit {
			return false
		}
	}
	return true
}

// proves returns how many carts prices prove: as often as something is left of all prices when a Unit is taken away.
func proves(p sack.Prices) int {
	n := 0
	for left := sumOf(p.Sacks); left > 0; left -= p.Unit {
		n++
	}
	return n
}

func (o slow) parts() []int {
	out := make([]int, 6)
	for i, s := range o.Sacks {
		out[s.Owner] += o.weight(i)
	}
	return out
}

// share returns the sharing of some pennies, of which the owners with a part have the next one each time.
func (o slow) share(pay int) []int {
	parts, out := o.parts(), make([]int, 6)
	for range pay {
		next := -1
		for owner, part := range parts {
			if part > 0 && (next < 0 || part*(2*out[next]+1) > parts[next]*(2*out[owner]+1)) {
				next = owner
			}
		}
		out[next]++
	}
	return out
}

// divides reports whether a fraction is a divisor.
func (o slow) divides(sharing []int, d api.Ratio) bool {
	if d.Num <= 0 || d.Den <= 0 {
		return false
	}
	for owner, w := range o.parts() {
		p := sharing[owner]
		if p != 0 && w*d.Den < d.Num*(2*p-1) || w*d.Den > d.Num*(2*p+1) {
			return false
		}
	}
	return true
}

// divisor returns the greatest of all divisors, and whether there is one: it is a bound of some owner's, if there are pennies.
func (o slow) divisor(sharing []int) (api.Ratio, bool) {
	best, found := api.Ratio{}, false
	for owner, w := range o.parts() {
		for _, by := range list(2*sharing[owner]-1, 2*sharing[owner]+1) {
			d := ratio(w, by)
			if o.divides(sharing, d) && (!found || d.Num*best.Den > best.Num*d.Den) {
				best, found = d, true
			}
		}
	}
	return best, found && sumOf(sharing) > 0
}

// isLowest reports whether a ratio is in lowest terms, with a denominator of at least 1.
func isLowest(d api.Ratio) bool {
	for n := 2; n <= max(d.Num, d.Den); n++ {
		if d.Num%n == 0 && d.Den%n == 0 {
			return false
		}
	}
	return d.Den >= 1
}
