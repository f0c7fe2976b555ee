package branch_test

import (
	"math"
	"math/rand"
	"reflect"
	"slices"
	"testing"

	"laurel/api"
	"laurel/branch"
)

// P3.7, P0.4: the cells of each ford are those of the courses that fit, and a course leaves as few fords out of place as must be set anew.
func TestCellsAreThoseOfCourses(t *testing.T) {
	forMany(t, 150, func(_ *rand.Rand, c branch.Channel) {
		anew, e := branch.Anew(c)
		if e != api.OK {
			return
		}
		met := map[[3]int]bool{}
		fewest := len(c.Fords)
		for _, course := range (slow{c}).courses() {
			is, e := branch.Fits(c, course)
			if e != api.OK {
				t.Error(c, course, e)
			}
			if !is {
				continue
			}
			astray := 0
			for after, row := range course {
				for ford, cell := range row {
					met[[3]int{after, ford, cell}] = true
					if after == c.Tides && cell != c.Fords[ford] {
						astray++
					}
				}
			}
			fewest = min(fewest, astray)
		}
		if fewest != anew.Lo {
			t.Error(c, fewest, anew)
		}
		for after := range c.Tides + 1 {
			for ford := range c.Fords {
				cells, e := branch.Cells(c, after, ford)
				for cell := range c.Cells {
					if met[[3]int{after, ford, cell}] != slices.Contains(cells, cell) || e != api.OK {
						t.Error(c, after, ford, cell, cells, e)
					}
				}
			}
		}
	})
}

// within reports whether a list has no numbers but those of another one.
func within(l, all []int) bool {
	return !slices.ContainsFunc(l, func(n int) bool { return !slices.Contains(all, n) })
}

// P3.7: one sight more never makes more courses fit, nor more cells possible, nor a fate open again.
func TestSightMore(t *testing.T) {
	var closed int
	forMany(t, 400, func(r *rand.Rand, c branch.Channel) {
		s := branch.Sight{After: r.Intn(c.Tides + 1), Cell: r.Intn(c.Cells), Upright: r.Intn(2) == 0}
		more, e := branch.With(c, s)
		before, f := branch.Count(c)
		after, g := branch.Count(more)
		if after > before || e != api.OK || f != api.OK || g != api.OK {
			t.Error(c, s, before, after, e, f, g)
		}
		if after == 0 {
			return
		}
		for tides := range c.Tides + 1 {
			for ford := range c.Fords {
				all, e := branch.Cells(c, tides, ford)
				some, f := branch.Cells(more, tides, ford)
				if !within(some, all) || len(some) == 0 || e != api.OK || f != api.OK {
					t.Error(c, s, tides, ford, all, some, e, f)
				}
			}
		}
		open, e := branch.Fates(c)
		then, f := branch.Fates(more)
		if len(open) != len(then) || e != api.OK || f != api.OK {
			t.Fatal(c, s, open, then, e, f)
		}
		for ford, fate := range then {
			if open[ford] != branch.Open && fate != open[ford] {
				t.Error(c, s, ford, open, then)
			}
			if open[ford] != fate {
				closed++
			}
		}
	})
	if closed < 20 {
		t.Error("too few fates that a sight closes to show anything", closed)
	}
}

// P3.7: without the sights that are wrong some course fits, and a clash always has one of them.
func TestWrongNamesClash(t *testing.T) {
	var clashes int
	forMany(t, 1000, func(_ *rand.Rand, c branch.Channel) {
		wrong, e := branch.Wrong(c)
		clash, f := branch.Clash(c)
		n, g := branch.Count(c)
		if e != api.OK || g != api.OK || (f == api.ErrNone) != (n > 0) || (f == api.ErrNone) != (len(wrong) == 0) {
			t.Error(c, wrong, clash, n, e, f, g)
		}
		right := copied(c)
		right.Sights = nil
		for i, s := range c.Sights {
			if !slices.Contains(wrong, i) {
				right.Sights = append(right.Sights, s)
			}
		}
		if n, e := branch.Count(right); n == 0 || e != api.OK {
			t.Error(c, wrong, n, e)
		}
		if f != api.OK {
			return
		}
		clashes++
		if !slices.ContainsFunc(clash, func(i int) bool { return slices.Contains(wrong, i) }) {
			t.Error(c, clash, wrong)
		}
		if is, e := branch.Agree(c, clash); is || e != api.OK {
			t.Error(c, clash, is, e)
		}
		for i := range clash {
			if is, e := branch.Agree(c, slices.Delete(slices.Clone(clash), i, i+1)); !is || e != api.OK {
				t.Error(c, clash, i, is, e)
			}
		}
	})
	if clashes < 100 {
		t.Error("too few clashes to show anything", clashes)
	}
}

// P3.7: a ford in a cell that no quicksand is in never moves, and the fewest moves are 0 just if a course fits in which no ford moves.
func TestStill(t *testing.T) {
	var still, moved int
	forMany(t, 500, func(_ *rand.Rand, c branch.Channel) {
		course, n, e := branch.Calm(c)
		if e != api.OK {
			return
		}
		rest, f := branch.Fits(c, slices.Repeat([][]int{c.Fords}, c.Tides+1))
		if rest != (n == 0) || f != api.OK {
			t.Error(c, course, n, rest, f)
		}
		for ford, cell := range c.Fords {
			reach, e := branch.Reach(c, cell)
			if reach > 0 {
				moved++
				continue
			}
			still++
			shift, f := branch.Shift(c, ford)
			if shift != span(0, 0) || e != api.OK || f != api.OK {
				t.Error(c, ford, shift, e, f)
			}
			for after := range c.Tides + 1 {
				if cells, e := branch.Cells(c, after, ford); !slices.Equal(cells, list(cell)) || e != api.OK {
					t.Error(c, after, ford, cells, e)
				}
			}
		}
	})
	if still < 50 || moved < 50 {
		t.Error("too few fords of a kind to show anything", still, moved)
	}
}

// P0.1: no function panics, whatever its arguments are, and all end.
func TestAnyArguments(t *testing.T) {
	some := list(0, 1, -1, 2, 3, 4, 5, 6, 8, 9, 10, 11, math.MaxInt, math.MinInt, math.MaxInt32)
	r := rand.New(rand.NewSource(7))
	pick := func() int { return some[r.Intn(len(some))] }
	for range 3000 {
		c := branch.Channel{Cells: pick(), Tides: pick(), Fords: list(pick())}
		if r.Intn(2) == 0 {
			c = anyChannel(r)
		}
		for range r.Intn(2) {
			c.Fords = append(c.Fords, pick())
		}
		for range r.Intn(2) {
			c.Sands = append(c.Sands, sand(pick(), pick(), pick()))
		}
		for range r.Intn(2) {
			c.Sights = append(c.Sights, up(pick(), pick()))
		}
		want := branch.Check(c)
		for _, x := range calls(pick()) {
			if isZero, e := x.ask(c); e != api.OK && !isZero || want != api.OK && e != want {
				t.Error(x.name, c, isZero, e)
			}
		}
	}
}

// P0.1: all functions end, and have answers, for channels that are as large as can be.
func TestWidest(t *testing.T) {
	for _, x := range calls(1) {
		_, e := x.ask(widest())
		want := api.OK
		switch x.name {
		case "With":
			want = api.ErrMany
		case "Agree":
			want = api.ErrAgain
		case "Clash":
			want = api.ErrNone
		}
		if e != want {
			t.Error(x.name, e)
		}
	}
	open := widest()
	open.Sights = nil
	many, e := branch.Count(open)
	got, f := branch.Fates(open)
	if many != 11199774 || !slices.Equal(got, fates(branch.Open, branch.Open, branch.Open)) || e != api.OK || f != api.OK {
		t.Error(many, got, e, f)
	}
}

// everything returns all results for a channel, so that they can be held against others.
func everything(c branch.Channel, course [][]int, sights []int) []any {
	out := []any{branch.Check(c)}
	keep := func(results ...any) {
		for _, x := range results {
			if v := reflect.ValueOf(x); v.Kind() == reflect.Slice && v.Len() == 0 {
				x = nil
			}
			out = append(out, x)
		}
	}
	for _, n := range list(0, 1) {
		reach, e := branch.Reach(c, n)
		keep(reach, e)
		for ford := range c.Fords {
			cells, e := branch.Cells(c, n, ford)
			keep(cells, e)
			shift, e := branch.Shift(c, ford)
			keep(shift, e)
		}
		sure, e := branch.Sure(c, n)
		keep(sure, e)
		bare, e := branch.Bare(c, n)
		keep(bare, e)
		more, e := branch.With(c, up(n, n))
		keep(more.Cells, more.Tides, more.Fords, more.Sands, more.Sights, e)
	}
	is, e := branch.Fits(c, course)
	keep(is, e)
	many, e := branch.Count(c)
	keep(many, e)
	some, e := branch.Course(c)
	keep(some, e)
	calm, n, e := branch.Calm(c)
	keep(calm, n, e)
	got, e := branch.Fates(c)
	keep(got, e)
	anew, e := branch.Anew(c)
	keep(anew, e)
	agreed, e := branch.Agree(c, sights)
	keep(agreed, e)
	clash, e := branch.Clash(c)
	keep(clash, e)
	wrong, e := branch.Wrong(c)
	keep(wrong, e)
	s, n, e := branch.Ask(c)
	keep(s, n, e)
	return out
}

// channels are some that have answers of all kinds.
func channels() []branch.Channel {
	return []branch.Channel{
		one(1), two(), one(2, up(1, 0), up(2, 3), up(1, 0)), near(), one(1, gone(1, 4), up(1, 0), up(1, 2)),
	}
}

// R4, R5: arguments come back unchanged, and the same question has the same answer again.
func TestArgumentsUnchanged(t *testing.T) {
	for _, c := range channels() {
		same := copied(c)
		course, sights := [][]int{list(1, 4), list(2, 4)}, list(2, 0, 1)
		before := everything(c, course, sights)
		if after := everything(c, course, sights); !reflect.DeepEqual(before, after) {
			t.Error(before, after)
		}
		if !reflect.DeepEqual(c, same) || !sameLists(course, [][]int{{1, 4}, {2, 4}}) || !slices.Equal(sights, list(2, 0, 1)) {
			t.Error(c, course, sights)
		}
	}
}

// R4: a list that has room behind it is not written to.
func TestRoomUnchanged(t *testing.T) {
	c := one(1)
	fords, quick := list(1, 4, 77, 88), sands(sand(0, 2, 1), sand(7, 7, 7), sand(8, 8, 8))
	sights := []branch.Sight{up(1, 1), gone(1, 1), up(77, 77), up(88, 88)}
	c.Fords, c.Sands, c.Sights = fords[:2], quick[:1], sights[:2]
	row, listed := list(2, 4, 77, 88), list(0, 1, 77, 88)
	course := [][]int{list(1, 4), row[:2], nil, nil}
	everything(c, course[:2], listed[:2])
	everything(c, course[:2], listed[:1])
	if !slices.Equal(fords, list(1, 4, 77, 88)) || quick[1] != sand(7, 7, 7) || quick[2] != sand(8, 8, 8) ||
		sights[2] != up(77, 77) || sights[3] != up(88, 88) {
		t.Error(fords, quick, sights)
	}
	if !slices.Equal(row, list(2, 4, 77, 88)) || !slices.Equal(listed, list(0, 1, 77, 88)) || course[2] != nil || course[3] != nil {
		t.Error(row, listed, course)
	}
}

// spoil overwrites a list, and the room behind it.
func spoil[T any](l []T, x T) {
	l = l[:cap(l)]
	for i := range l {
		l[i] = x
	}
}

// spoilCourse overwrites a course, each list of which must have memory of its own.
func spoilCourse(t *testing.T, course [][]int) {
	t.Helper()
	for i, row := range course {
		if slices.Contains(row, 77) {
			t.Error("two lists of a course share memory", i)
		}
		spoil(row, 77)
	}
	spoil(course, nil)
}

// R4: results share no memory with arguments, with each other, or with later results.
func TestResultsApart(t *testing.T) {
	for _, c := range channels() {
		same := copied(c)
		want := everything(same, nil, list(0))
		a, _ := branch.Course(c)
		spoilCourse(t, a)
		b, _, _ := branch.Calm(c)
		spoilCourse(t, b)
		cells, _ := branch.Cells(c, 1, 0)
		sure, _ := branch.Sure(c, 1)
		bare, _ := branch.Bare(c, 0)
		clash, _ := branch.Clash(c)
		wrong, _ := branch.Wrong(c)
		for _, l := range [][]int{cells, sure, bare, clash, wrong} {
			spoil(l, 77)
		}
		got, _ := branch.Fates(c)
		spoil(got, 77)
		more, e := branch.With(c, up(0, 1))
		if e != api.OK {
			t.Error(e)
		}
		spoil(more.Fords, 77)
		spoil(more.Sands, sand(7, 7, 7))
		spoil(more.Sights, up(77, 77))
		if !reflect.DeepEqual(c, same) || !reflect.DeepEqual(everything(c, nil, list(0)), want) {
			t.Error(c)
		}
	}
}

// R3: nil lists and empty ones are the same.
func TestEmptyLists(t *testing.T) {
	a, b := one(1), one(1)
	a.Sands, b.Sands = nil, sands()
	a.Sights, b.Sights = nil, []branch.Sight{}
	if x, y := everything(a, nil, nil), everything(b, [][]int{}, list()); !reflect.DeepEqual(x, y) {
		t.Error(x, y)
	}
	if n, e := branch.Count(b); n != 1 || e != api.OK {
		t.Error(n, e)
	}
	if is, e := branch.Agree(b, list()); !is || e != api.OK {
		t.Error(is, e)
	}
}
