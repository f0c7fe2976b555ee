package fog_test

import (
	"math"
	"math/rand"
	"reflect"
	"slices"
	"testing"

	"laurel/api"
	"laurel/fog"
)

// row is the fog of the chapter's examples, with one cart that starts at place 1, and its reports.
func row(reports ...fog.Report) fog.Fog {
	return fog.Fog{
		Sands:  fog.Sands{Places: 4, Minutes: 2, Tracks: [][2]int{{0, 1}, {2, 1}, {2, 3}}},
		Blasts: []fog.Blast{blast(1, 0, 1), blast(2, 3, 0)},
		Carts:  []fog.Cart{cart(list(1), reports...)},
	}
}

// none is that fog with reports that no walk fits.
func none() fog.Fog { return row(yes(0), yes(1)) }

// cut is a row of three places, besides which there are two more that a track joins, and one without any track.
func cut(reports ...fog.Report) fog.Fog {
	return fog.Fog{
		Sands:  fog.Sands{Places: 6, Minutes: 3, Tracks: [][2]int{{0, 1}, {1, 2}, {4, 3}}},
		Blasts: []fog.Blast{blast(0, 0, 7), blast(3, 4, 0), blast(2, 5, 7), blast(1, 1, 0)},
		Carts:  []fog.Cart{cart(list(0, 3), reports...), cart(list(2, 4, 5))},
	}
}

// widest is as large as fogs can be: five places with all tracks between them, a ring that begins at one of them, and all reports.
func widest() fog.Fog {
	f := fog.Fog{Sands: fog.Sands{Places: 8, Minutes: 8, Tracks: [][2]int{{4, 5}, {5, 6}, {6, 7}, {7, 4}}}}
	for a := range 5 {
		for b := range a {
			f.Sands.Tracks = append(f.Sands.Tracks, [2]int{a, b})
		}
	}
	c := cart(list(0, 1, 2, 3, 4, 5, 6, 7))
	for minute := range 8 {
		f.Blasts = append(f.Blasts, blast(minute, 4, minute%2))
		c.Reports = append(c.Reports, fog.Report{Blast: 7 - minute, Heard: minute%2 == 0})
	}
	f.Carts = []fog.Cart{c, c, c}
	return f
}

func list(n ...int) []int        { return n }
func pairs(p ...[2]int) [][2]int { return p }
func yes(blast int) fog.Report   { return fog.Report{Blast: blast, Heard: true} }
func no(blast int) fog.Report    { return fog.Report{Blast: blast} }
func blast(minute, place, loud int) fog.Blast {
	return fog.Blast{Minute: minute, Place: place, Loud: loud}
}
func cart(s []int, r ...fog.Report) fog.Cart { return fog.Cart{Start: s, Reports: r} }
func farNumbers() []int                      { return list(math.MaxInt, math.MinInt, math.MaxInt-1, math.MaxInt32) }
func outside(least, most int) []int          { return append(farNumbers(), least-1, most+1, least-9, most+9) }
func someOf(least, most int) []int           { return append(outside(least, most), least, most) }
func isIn(n, least, most int) bool           { return least <= n && n <= most }
func last(f fog.Fog) int                     { return f.Sands.Minutes }
func without(l []int, i int) []int           { return slices.Delete(slices.Clone(l), i, i+1) }
func hasAll(all, some []int) bool            { return len(common(all, some)) == len(some) }
func startingAt(f fog.Fog, s ...int) fog.Fog { f = copied(f); f.Carts[0].Start = s; return f }
func lasting(f fog.Fog, minutes int) fog.Fog { f = copied(f); f.Sands.Minutes = minutes; return f }
func joined(f fog.Fog, t ...[2]int) fog.Fog  { f = copied(f); f.Sands.Tracks = t; return f }
func blown(f fog.Fog, b ...fog.Blast) fog.Fog {
	f = copied(f)
	f.Blasts = append(f.Blasts, b...)
	return f
}
func followed(f fog.Fog, c ...fog.Cart) fog.Fog {
	f = copied(f)
	f.Carts = append(f.Carts, c...)
	return f
}

// common returns the numbers of a list that another one has, too.
func common(l, other []int) []int {
	var out []int
	for _, n := range l {
		if slices.Contains(other, n) {
			out = append(out, n)
		}
	}
	return out
}

// copied returns a fog that shares no memory with another one.
func copied(f fog.Fog) fog.Fog {
	f.Sands.Tracks, f.Blasts, f.Carts = slices.Clone(f.Sands.Tracks), slices.Clone(f.Blasts), slices.Clone(f.Carts)
	for i, c := range f.Carts {
		f.Carts[i] = cart(slices.Clone(c.Start), slices.Clone(c.Reports)...)
	}
	return f
}

// sameFog reports whether two fogs are the same; nil lists are as good as empty ones.
func sameFog(a, b fog.Fog) bool {
	sameCart := func(a, b fog.Cart) bool {
		return slices.Equal(a.Start, b.Start) && slices.Equal(a.Reports, b.Reports)
	}
	return a.Sands.Places == b.Sands.Places && a.Sands.Minutes == b.Sands.Minutes &&
		slices.Equal(a.Sands.Tracks, b.Sands.Tracks) && slices.Equal(a.Blasts, b.Blasts) && slices.EqualFunc(a.Carts, b.Carts, sameCart)
}

// zero reports whether all results are zero; an empty list is as good as nil.
func zero(results ...any) bool {
	for _, x := range results {
		if f, ok := x.(fog.Fog); ok && sameFog(f, fog.Fog{}) {
			continue
		}
		if v := reflect.ValueOf(x); !v.IsZero() && (v.Kind() != reflect.Slice || v.Len() > 0) {
			return false
		}
	}
	return true
}

// anyReports returns reports of a cart, most of which a walk agrees with.
func anyReports(r *rand.Rand, f fog.Fog, start []int) []fog.Report {
	o := slow{f}
	walks := o.walks(start)
	walk := walks[r.Intn(len(walks))]
	wrong := r.Intn(4)
	var out []fog.Report
	for _, b := range r.Perm(len(f.Blasts))[:r.Intn(len(f.Blasts)+1)] {
		x := fog.Report{Blast: b, Heard: o.hears(b, walk[f.Blasts[b].Minute])}
		if r.Intn(4) < wrong {
			x.Heard = r.Intn(2) == 0
		}
		out = append(out, x)
	}
	return out
}

// anyFog returns a small fog.
func anyFog(r *rand.Rand) fog.Fog {
	f := fog.Fog{Sands: fog.Sands{Places: 1 + r.Intn(5), Minutes: r.Intn(4)}}
	dense := r.Intn(4)
	for a := range f.Sands.Places {
		for b := range a {
			if r.Intn(4) <= dense && len(f.Sands.Tracks) < 7 {
				track := [2]int{a, b}
				if r.Intn(2) == 0 {
					track = [2]int{b, a}
				}
				f.Sands.Tracks = append(f.Sands.Tracks, track)
			}
		}
	}
	for range r.Intn(8) {
		f.Blasts = append(f.Blasts, blast(r.Intn(last(f)+1), r.Intn(f.Sands.Places), r.Intn(3)))
	}
	for range 1 + r.Intn(3) {
		start := r.Perm(f.Sands.Places)[:1+r.Intn(f.Sands.Places)]
		slices.Sort(start)
		f.Carts = append(f.Carts, cart(start, anyReports(r, f, start)...))
	}
	return f
}

// forMany asks something of many fogs.
func forMany(t *testing.T, times int, ask func(r *rand.Rand, f fog.Fog)) {
	t.Helper()
	r := rand.New(rand.NewSource(5))
	for range times {
		ask(r, anyFog(r))
		if t.Failed() {
			return
		}
	}
}

// call is a function, asked with some arguments of its own.
type call struct {
	name string
	ask  func(f fog.Fog) (isZero bool, e api.Errno)
}

// calls returns all functions but Check; their own arguments are a number n for all that they ask, and lists of it.
func calls(n int) []call {
	return []call{
		{"Far", func(f fog.Fog) (bool, api.Errno) { a, e := fog.Far(f, n, n); return zero(a), e }},
		{"Hears", func(f fog.Fog) (bool, api.Errno) { a, e := fog.Hears(f, n); return zero(a), e }},
		{"Fits", func(f fog.Fog) (bool, api.Errno) { a, e := fog.Fits(f, n, list(n, n, n)); return zero(a), e }},
		{"Count", func(f fog.Fog) (bool, api.Errno) { a, e := fog.Count(f, n); return zero(a), e }},
		{"Walk", func(f fog.Fog) (bool, api.Errno) { a, e := fog.Walk(f, n, n, n); return zero(a), e }},
		{"At", func(f fog.Fog) (bool, api.Errno) { a, e := fog.At(f, n, n); return zero(a), e }},
		{"Still", func(f fog.Fog) (bool, api.Errno) { a, e := fog.Still(f, n); return zero(a), e }},
		{"Heard", func(f fog.Fog) (bool, api.Errno) { a, b, e := fog.Heard(f, n, n); return zero(a, b), e }},
		{"With", func(f fog.Fog) (bool, api.Errno) { a, e := fog.With(f, n, yes(n)); return zero(a), e }},
		{"Met", func(f fog.Fog) (bool, api.Errno) { a, e := fog.Met(f, n, n); return zero(a), e }},
		{"Agree", func(f fog.Fog) (bool, api.Errno) { a, e := fog.Agree(f, n, list(n, n)); return zero(a), e }},
		{"Clash", func(f fog.Fog) (bool, api.Errno) { a, e := fog.Clash(f, n); return zero(a), e }},
		{"Apart", func(f fog.Fog) (bool, api.Errno) { a, e := fog.Apart(f, n, n, pairs([2]int{n, n})); return zero(a), e }},
		{"Twins", func(f fog.Fog) (bool, api.Errno) { a, e := fog.Twins(f, n, n, n); return zero(a), e }},
		{"Decide", func(f fog.Fog) (bool, api.Errno) { a, e := fog.Decide(f, n, n, n); return zero(a), e }},
		{"Ask", func(f fog.Fog) (bool, api.Errno) { a, b, e := fog.Ask(f, n, n, n); return zero(a, b), e }},
	}
}
