package audit_test

import (
	"slices"
	"testing"

	"parcener/api"
	"parcener/audit"
)

// R1: Check's error comes first, whatever the guess is, and with it all else is zero.
func TestInvalidTranscript(t *testing.T) {
	for _, f := range flaws() {
		if l, e := audit.Points(f.n, f.log); len(l) != 0 || e != f.e {
			t.Errorf("Points(%d, %v) = %v, %v", f.n, f.log, l, e)
		}
		if g, e := audit.Guess(f.n, f.log); !same(g, api.Guess{}) || e != f.e {
			t.Errorf("Guess(%d, %v) = %v, %v", f.n, f.log, g, e)
		}
		if n, e := audit.First(f.n, f.log); n != 0 || e != f.e {
			t.Errorf("First(%d, %v) = %d, %v", f.n, f.log, n, e)
		}
		for _, g := range []api.Guess{{}, line(2), even(), line(101)} {
			if n, e := audit.Fits(f.n, g, f.log); n != 0 || e != f.e {
				t.Errorf("Fits(%d, %v, %v) = %d, %v", f.n, g, f.log, n, e)
			}
		}
	}
}

// R1: what is not valid comes ahead of a scale that is too great.
func TestInvalidBeforeScale(t *testing.T) {
	for _, l := range unscaled() {
		l := append(l, api.Query{})
		if _, e := audit.Guess(3, l); e != api.ErrBad {
			t.Errorf("Guess(3, %v): %v", l, e)
		}
		if _, e := audit.First(3, l); e != api.ErrBad {
			t.Errorf("First(3, %v): %v", l, e)
		}
	}
}

// roomy returns a copy of a list that has memory behind its end, and all of that memory.
func roomy[T any](l []T, filler T) (list, memory []T) {
	memory = append(slices.Clone(l), filler, filler, filler)
	return memory[:len(l)], memory
}

// R2: no call changes its arguments, also behind their ends.
func TestOnlyRead(t *testing.T) {
	for _, c := range append(doubtful()[:50], transcript{3, unscaled()[0]}, transcript{3, log(badQueries()...)}) {
		l, memory := roomy(c.log, api.Query{Agent: 91})
		g, _ := audit.Guess(c.n, c.log)
		var points, values []api.Ratio
		g.Points, points = roomy(g.Points, r(92, 1))
		g.F, values = roomy(g.F, r(93, 1))
		before := []any{slices.Clone(memory), slices.Clone(points), slices.Clone(values)}
		audit.Check(c.n, l)
		audit.Points(c.n, l)
		audit.Guess(c.n, l)
		audit.Fits(c.n, g, l)
		audit.First(c.n, l)
		// Calls with an error have no effect either.
		audit.Fits(c.n, api.Guess{Points: g.F, F: g.Points}, l)
		audit.Guess(0, l)
		if !slices.Equal(memory, before[0].([]api.Query)) || !slices.Equal(points, before[1].([]api.Ratio)) || !slices.Equal(values, before[2].([]api.Ratio)) {
			t.Errorf("the arguments of %v were changed", c)
		}
	}
}

// fill writes over all the memory of a list, also behind its end.
func fill[T any](l []T, x T) {
	l = l[:cap(l)]
	for i := range l {
		l[i] = x
	}
}

// R2: results share no memory with arguments, with results of other calls, nor with each other.
func TestOwnMemory(t *testing.T) {
	for _, c := range guesses() {
		l, memory := roomy(c.log, api.Query{Agent: 91})
		all := slices.Clone(memory)
		points, _ := audit.Points(c.n, l)
		one, _ := audit.Guess(c.n, l)
		two, _ := audit.Guess(c.n, l)
		fill(points, r(-7, 1))
		fill(one.Points, r(-8, 1))
		if !slices.Equal(one.F, c.g.F) {
			t.Errorf("the points and the values of the guess of %v share memory", c.log)
		}
		fill(one.F, r(-9, 1))
		if !same(two, c.g) || !slices.Equal(memory, all) {
			t.Errorf("the results of two calls for %v share memory, or it is that of the arguments", c.log)
		}
		if again, e := audit.Points(c.n, l); !slices.Equal(again, c.g.Points) || e != api.OK {
			t.Errorf("Points(%d, %v) = %v, %v the second time", c.n, l, again, e)
		}
	}
}

// The definition of a transcript: which agent a query names does not matter.
func TestAgentsDoNotMatter(t *testing.T) {
	for _, c := range doubtful()[:100] {
		other := slices.Clone(c.log)
		for i := range other {
			other[i].Agent = i*7 - 100
		}
		one, e := audit.Guess(c.n, c.log)
		two, f := audit.Guess(c.n, other)
		if !same(one, two) || e != f {
			t.Errorf("Guess(%d, %v) = %v, %v; with other agents %v, %v", c.n, c.log, one, e, two, f)
		}
	}
}

// R3: nil and empty lists are the same.
func TestEmptyIsNil(t *testing.T) {
	for _, l := range [][]api.Query{nil, {}} {
		g, e := audit.Guess(5, l)
		if n, f := audit.Fits(5, g, l); n != 0 || e != api.OK || f != api.OK {
			t.Errorf("%v, %v; Fits: %d, %v", g, e, n, f)
		}
		if n, e := audit.First(5, l); n != 0 || e != api.OK {
			t.Errorf("First of no queries = %d, %v", n, e)
		}
		for _, g := range []api.Guess{{}, {Points: []api.Ratio{}, F: []api.Ratio{}}} {
			if n, e := audit.Fits(5, g, l); n != 0 || e != api.ErrBad {
				t.Errorf("Fits of no guess = %d, %v", n, e)
			}
		}
	}
}
