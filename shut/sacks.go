package shut

import "slices"

// fallsOf returns the falls that a rain has in truths that fit.
func (f *fit) fallsOf(rain int) []int {
	var met [MaxFall + 1]bool
	for _, x := range f.weathers {
		for n := range f.alike(rain, x.falls[rain]) {
			met[x.falls[rain]+n] = true
		}
	}
	return numbersThat(len(met), func(fall int) bool { return met[fall] })
}

// from returns the origins that a sack has in truths that fit.
func (f *fit) from(sack int) []Origin {
	met := map[Origin]bool{}
	for _, x := range f.weathers {
		for _, o := range x.from[sack].list() {
			met[o] = true
		}
	}
	return slices.DeleteFunc(f.dug[sack].list(), func(o Origin) bool { return !met[o] })
}

// state returns the state of what can be foul in some weathers, and clean in some.
func (f *fit) state(canBe func(x weather, foul bool) bool) State {
	some := func(foul bool) bool {
		return slices.ContainsFunc(f.weathers, func(x weather) bool { return canBe(x, foul) })
	}
	switch {
	case !some(true):
		return Clean
	case !some(false):
		return Foul
	}
	return Open
}

// bed returns the state of a bed at a tide.
func (f *fit) bed(o Origin) State {
	return f.state(func(x weather, foul bool) bool { return x.closed.has(o) == foul })
}

// sack returns the state of a sack.
func (f *fit) sack(sack int) State {
	return f.state(func(x weather, foul bool) bool { return x.canBe(sack, foul) })
}

// clears reports whether sacks clear others. In each weather the sacks are from their origins whatever the others are,
// so that another one can be foul while all the sacks are clean if it can be foul at all.
func (f *fit) clears(sacks, others []int) bool {
	found := false
	for _, x := range f.weathers {
		if !every(sacks, func(sack int) bool { return x.canBe(sack, false) }) {
			continue
		}
		found = true
		if !every(others, func(other int) bool { return slices.Contains(sacks, other) || !x.canBe(other, true) }) {
			return false
		}
	}
	return found
}
