package sack

import (
	"cmp"
	"slices"

	"laurel/api"
)

// parts returns the parts of all owners.
func (w *work) parts() []int {
	parts := make([]int, MaxOwners)
	for sack, s := range w.Sacks {
		parts[s.Owner] += w.weights[just(sack)]
	}
	return parts
}

// lowest returns a fraction in lowest terms, so that two that are equal are the same.
func lowest(num, den int) api.Ratio {
	a, b := num, den
	for b != 0 {
		a, b = b, a%b
	}
	return api.Ratio{Num: num / a, Den: den / a}
}

func compare(a, b api.Ratio) int { return cmp.Compare(a.Num*b.Den, b.Num*a.Den) }

// greatest returns the greatest of several parts, each of them divided by some number.
func greatest(parts ...api.Ratio) api.Ratio { return slices.MaxFunc(parts, compare) }

// quotients returns what decides which owner has the next penny: each part, divided by 2 times his pennies and 1.
func (w *work) quotients(pennies []int) []api.Ratio {
	var out []api.Ratio
	for owner, part := range w.parts() {
		out = append(out, lowest(part, 2*pennies[owner]+1))
	}
	return out
}

// share returns the sharing of some pennies, or an error if they cannot be shared.
func (w *work) share(pay int) ([]int, api.Errno) {
	if !isPay(pay) {
		return nil, api.ErrLimit
	}
	pennies := make([]int, MaxOwners)
	for range pay {
		quotients := w.quotients(pennies)
		most := greatest(quotients...)
		if most.Num == 0 { // no owner has a part
			return nil, api.ErrNone
		}
		pennies[slices.Index(quotients, most)]++
	}
	return pennies, api.OK
}

// divides reports whether a fraction that is greater than 0 is a divisor for a sharing.
func (w *work) divides(sharing []int, d api.Ratio) bool {
	for owner, part := range w.parts() {
		pennies := sharing[owner]
		if pennies != 0 && part*d.Den < d.Num*(2*pennies-1) {
			return false
		}
		if part*d.Den > d.Num*(2*pennies+1) {
			return false
		}
	}
	return true
}

// divisor returns the greatest divisor for a sharing, or an error if there is none.
// It can only be the greatest fraction that does not keep a last penny from its owner.
func (w *work) divisor(sharing []int) (api.Ratio, api.Errno) {
	var bounds []api.Ratio
	for owner, part := range w.parts() {
		if pennies := sharing[owner]; pennies != 0 {
			bounds = append(bounds, lowest(part, 2*pennies-1))
		}
	}
	if len(bounds) == 0 {
		return api.Ratio{}, api.ErrNone
	}
	d := slices.MinFunc(bounds, compare)
	if d.Num == 0 || !w.divides(sharing, d) {
		return api.Ratio{}, api.ErrNone
	}
	return d, api.OK
}
