package audit_test

import (
	"math"
	"slices"
	"testing"

	"parcener/api"
	"parcener/audit"
)

// P5.1: Check tells what is wrong with a transcript.
func TestCheckInvalid(t *testing.T) {
	for _, f := range flaws() {
		if e := audit.Check(f.n, f.log); e != f.e {
			t.Errorf("Check(%d, %v) = %v; want %v", f.n, f.log, e, f.e)
		}
	}
}

// P5.1: Check accepts what the definition allows, whatever the agents are, and also what no valuation can answer.
func TestCheckValid(t *testing.T) {
	for _, c := range []transcript{
		{1, nil}, {api.MaxLen, nil}, {1, []api.Query{}},
		{3, repeated(fine(), api.MaxAudit)},
		{3, log(told(w(0), w(3), w(0)), told(w(0), w(0), w(0)), told(w(3), w(3), w(5)), told(w(1), w(1), w(top)))},
		{3, log(marked(w(0), w(0), w(3)), marked(w(0), w(7), w(0)), marked(w(3), w(0), w(3)), marked(w(1), w(top), w(1)))},
		{3, log(told(r(1, top), r(1, top), r(1, top)), marked(r(1, top), r(1, top), r(1, top)))},
		{3, log(told(w(0), r(3*(1e17)-1, 1e17), r(top, top-1)))},
		{api.MaxLen, log(told(w(0), w(api.MaxLen), w(1)), marked(w(api.MaxLen), w(0), w(api.MaxLen)))},
		{1, log(api.Query{Agent: -1, Kind: api.AskValue, A: w(0), B: w(1), Answer: w(1)}, api.Query{Agent: math.MaxInt, Kind: api.AskMark, A: w(0), B: w(1), Answer: w(1)})},
	} {
		if e := audit.Check(c.n, c.log); e != api.OK {
			t.Errorf("Check(%d, %v) = %v", c.n, c.log, e)
		}
	}
	for _, l := range unscaled() {
		if e := audit.Check(3, l); e != api.OK {
			t.Errorf("Check(3, %v) = %v", l, e)
		}
	}
}

// P5.1: the points are both ends, and those that a query or its answer tells, each one once, in order.
func TestPoints(t *testing.T) {
	for _, c := range []struct {
		n    int
		log  []api.Query
		want []api.Ratio
	}{
		{1, nil, []api.Ratio{w(0), w(1)}},
		{api.MaxLen, []api.Query{}, []api.Ratio{w(0), w(api.MaxLen)}},
		{2, log(told(w(0), w(1), w(1)), marked(w(0), w(3), w(2))), []api.Ratio{w(0), w(1), w(2)}},
		// Amounts are no points, also if they lie in the cake.
		{5, log(told(w(1), w(2), w(3)), marked(w(1), w(4), w(2))), []api.Ratio{w(0), w(1), w(2), w(5)}},
		{5, log(told(w(4), w(4), w(0))), []api.Ratio{w(0), w(4), w(5)}},
		{5, log(marked(w(0), w(0), w(5)), told(w(0), w(5), w(1))), []api.Ratio{w(0), w(5)}},
		{3, log(told(r(5, 2), w(3), w(1)), marked(r(1, 3), w(1), r(1, 2)), told(r(1, 2), r(2, 3), w(1))), []api.Ratio{w(0), r(1, 3), r(1, 2), r(2, 3), r(5, 2), w(3)}},
		{1, log(told(r(1, top), r(1, top-1), w(0)), marked(r(top-1, top), w(0), w(1))), []api.Ratio{w(0), r(1, top), r(1, top-1), r(top-1, top), w(1)}},
	} {
		if got, e := audit.Points(c.n, c.log); !slices.Equal(got, c.want) || e != api.OK {
			t.Errorf("Points(%d, %v) = %v, %v; want %v", c.n, c.log, got, e, c.want)
		}
	}
}

// P5.1: a transcript of the greatest size has 82 points.
func TestManyPoints(t *testing.T) {
	var l []api.Query
	var want []api.Ratio
	for i := range int64(2*api.MaxAudit + 2) {
		want = append(want, w(i))
	}
	for i := range int64(api.MaxAudit) {
		l = append(l, told(w(80-2*i-1), w(80-2*i), w(1)))
	}
	if got, e := audit.Points(81, l); !slices.Equal(got, want) || e != api.OK {
		t.Errorf("Points(81, %v) = %v, %v", l, got, e)
	}
	g, e := audit.Guess(81, l)
	if n, f := audit.Fits(81, g, l); len(g.F) != 82 || e != api.OK || n != api.MaxAudit || f != api.OK {
		t.Errorf("Guess(81, %v) = %v, %v; Fits: %d, %v", l, g, e, n, f)
	}
	if last := g.F[81]; last != w(api.MaxAudit) {
		t.Errorf("the whole cake has %v", last)
	}
}

// guessed is a transcript and its guess.
type guessed struct {
	n   int
	log []api.Query
	g   api.Guess
}

func guesses() []guessed {
	pts := func(l ...api.Ratio) []api.Ratio { return l }
	return []guessed{
		{1, nil, api.Guess{Points: pts(w(0), w(1)), F: pts(w(0), w(0))}},
		// the chapter's examples
		{2, log(told(w(0), w(1), w(1)), marked(w(0), w(3), w(2))), api.Guess{Points: pts(w(0), w(1), w(2)), F: pts(w(0), w(1), w(3))}},
		{2, log(marked(w(0), w(1), w(2))), api.Guess{Points: pts(w(0), w(2)), F: pts(w(0), w(1))}},
		{3, log(told(w(0), w(2), w(2)), told(w(0), w(1), w(1))), api.Guess{Points: pts(w(0), w(1), w(2), w(3)), F: pts(w(0), w(1), w(2), w(2))}},
		{3, log(marked(w(1), w(2), w(2))), api.Guess{Points: pts(w(0), w(1), w(2), w(3)), F: pts(w(0), w(0), w(2), w(2))}},
		// The value up to 3 is at least 1, so that up to 1 is at least 1/2.
		{3, log(marked(w(0), w(1), w(2)), told(w(1), w(3), r(1, 2))), api.Guess{Points: pts(w(0), w(1), w(2), w(3)), F: pts(w(0), r(1, 2), w(1), w(1))}},
		// Nothing is between 0 and 3/2; the mark from 3/2 for 0 is the point itself.
		{3, log(told(w(0), r(3, 2), w(0)), marked(r(3, 2), w(0), r(3, 2)), marked(r(3, 2), r(1, 3), w(2))), api.Guess{Points: pts(w(0), r(3, 2), w(2), w(3)), F: pts(w(0), w(0), r(1, 3), r(1, 3))}},
		{4, log(told(w(1), w(2), w(0)), told(w(3), w(4), r(1, 2)), marked(w(2), w(1), w(3))), api.Guess{Points: pts(w(0), w(1), w(2), w(3), w(4)), F: pts(w(0), w(0), w(0), w(1), r(3, 2))}},
		// The value up to 3 is greater than that up to 2, which is 1: by one height, of 6 that the value 1 has.
		{4, log(marked(w(0), w(1), w(2)), marked(w(1), w(1), w(3))), api.Guess{Points: pts(w(0), w(1), w(2), w(3), w(4)), F: pts(w(0), r(1, 6), w(1), r(7, 6), r(7, 6))}},
		{4, log(marked(w(0), r(1, 2), w(2)), marked(w(1), r(1, 2), w(3)), marked(w(2), r(2, 3), w(4))), api.Guess{Points: pts(w(0), w(1), w(2), w(3), w(4)), F: pts(w(0), r(1, 36), r(1, 2), r(19, 36), r(7, 6))}},
		// A mark of nothing tells nothing of what lies before it.
		{4, log(marked(w(2), w(0), w(2)), told(w(0), w(2), w(1))), api.Guess{Points: pts(w(0), w(2), w(4)), F: pts(w(0), w(1), w(1))}},
		{4, log(marked(w(0), w(0), w(0)), marked(w(4), w(0), w(4))), api.Guess{Points: pts(w(0), w(4)), F: pts(w(0), w(0))}},
		{api.MaxLen, log(told(w(0), w(api.MaxLen), w(1e12))), api.Guess{Points: pts(w(0), w(api.MaxLen)), F: pts(w(0), w(1e12))}},
		{1, log(told(w(0), w(1), r(1, 1e9))), api.Guess{Points: pts(w(0), w(1)), F: pts(w(0), r(1, 1e9))}},
		{1, log(told(w(0), w(1), r(1e12-1, 1e9))), api.Guess{Points: pts(w(0), w(1)), F: pts(w(0), r(1e12-1, 1e9))}},
		{1, log(told(w(0), w(1), w(1000)), marked(w(0), r(1, 1e9), r(1, 2))), api.Guess{Points: pts(w(0), r(1, 2), w(1)), F: pts(w(0), r(1, 1e9), w(1000))}},
	}
}

// P5.2: the guess has the points, and the least heights there may be.
func TestGuess(t *testing.T) {
	for _, c := range guesses() {
		if got, e := audit.Guess(c.n, c.log); !same(got, c.g) || e != api.OK {
			t.Errorf("Guess(%d, %v) = %v, %v; want %v", c.n, c.log, got, e, c.g)
		}
	}
}

// impossible are transcripts for the length 4 that nobody can have answered, and the first query with which it is so.
func impossible() []struct {
	log   []api.Query
	first int
} {
	return []struct {
		log   []api.Query
		first int
	}{
		// the chapter's example
		{log(told(w(0), w(1), w(1)), marked(w(0), w(1), w(2))), 1},
		{log(marked(w(0), w(1), w(2)), told(w(0), w(1), w(1))), 1},
		// no width
		{log(told(w(1), w(1), w(1))), 0}, {log(told(w(0), w(0), r(1, 3))), 0}, {log(told(w(4), w(4), w(1))), 0},
		{log(marked(w(1), w(1), w(1))), 0}, {log(marked(w(0), r(1, 3), w(0))), 0}, {log(marked(w(4), w(1), w(4))), 0},
		// The mark for 0 is the point itself.
		{log(marked(w(0), w(0), w(1))), 0}, {log(marked(w(1), w(0), r(3, 2))), 0}, {log(fine(), marked(w(1), w(0), w(4))), 1},
		// two values
		{log(told(w(0), w(1), w(1)), told(w(0), w(1), w(2))), 1}, {log(told(w(1), w(2), w(2)), told(w(1), w(2), w(1))), 1},
		{log(marked(w(0), w(1), w(1)), marked(w(0), w(1), w(2))), 1}, {log(marked(w(0), w(1), w(2)), marked(w(0), w(1), w(1))), 1},
		// a part that is more than the whole, or the whole that is more than its parts
		{log(told(w(0), w(4), w(1)), told(w(1), w(2), w(2))), 1}, {log(told(w(1), w(2), w(2)), told(w(0), w(4), w(1))), 1},
		{log(told(w(0), w(1), w(1)), told(w(1), w(2), w(1)), told(w(0), w(2), w(3))), 2},
		{log(told(w(0), w(2), w(3)), told(w(0), w(1), w(1)), told(w(1), w(2), w(1))), 2},
		{log(told(w(0), w(2), w(1)), told(w(2), w(4), w(1)), told(w(0), w(4), r(1999999, 1000000))), 2},
		// A mark tells that there is less before it, however little.
		{log(told(w(0), w(1), w(1)), told(w(0), w(3), w(2)), marked(w(0), w(2), w(4))), 2},
		{log(told(w(2), w(3), w(0)), told(w(0), w(2), w(1)), marked(w(1), w(0), w(1)), marked(w(0), w(1), w(3))), 3},
		{log(marked(w(0), w(2), w(4)), told(w(3), w(4), w(0))), 1},
		{log(marked(w(0), w(1), w(2)), told(w(1), w(2), w(0)), told(w(0), w(3), w(1))), 1},
		{log(marked(w(0), w(1), w(1)), marked(w(1), w(1), w(2)), marked(w(2), w(1), w(3)), told(w(0), w(3), w(3)), told(w(1), w(3), r(5, 3))), 4},
		// What is behind the first one does not matter.
		{log(told(w(1), w(1), w(1)), told(w(1), w(1), w(1)), fine(), told(w(0), w(1), w(7))), 0},
		{append(repeated(fine(), api.MaxAudit-1), told(w(0), w(1), w(2))), api.MaxAudit - 1},
		{append(log(fine(), told(w(0), w(1), w(2))), repeated(fine(), api.MaxAudit-2)...), 1},
	}
}

// P5.2: there is no guess if nobody can have answered so. P5.3: First tells with which query it is so.
func TestImpossible(t *testing.T) {
	for _, c := range impossible() {
		if g, e := audit.Guess(4, c.log); !same(g, api.Guess{}) || e != api.ErrNone {
			t.Errorf("Guess(4, %v) = %v, %v", c.log, g, e)
		}
		if n, e := audit.First(4, c.log); n != c.first || e != api.OK {
			t.Errorf("First(4, %v) = %d, %v; want %d", c.log, n, e, c.first)
		}
	}
}

// P5.3: First is the number of queries if nothing is wrong.
func TestFirstOfNone(t *testing.T) {
	for _, c := range guesses() {
		if n, e := audit.First(c.n, c.log); n != len(c.log) || e != api.OK {
			t.Errorf("First(%d, %v) = %d, %v", c.n, c.log, n, e)
		}
	}
}

// P5.2, P5.3: a scale or an amount that is too great is told first, also if there are no heights, or a part has none.
func TestScale(t *testing.T) {
	for _, l := range unscaled() {
		for _, l := range [][]api.Query{l, append(log(told(w(1), w(1), w(1))), l...), append(slices.Clone(l), marked(w(0), w(0), w(1)))} {
			if g, e := audit.Guess(3, l); !same(g, api.Guess{}) || e != api.ErrRange {
				t.Errorf("Guess(3, %v) = %v, %v", l, g, e)
			}
			if n, e := audit.First(3, l); n != 0 || e != api.ErrRange {
				t.Errorf("First(3, %v) = %d, %v", l, n, e)
			}
		}
	}
	// These are at the limits. A mark, and points, may have any denominators.
	for _, l := range [][]api.Query{
		log(told(w(0), w(1), r(1, 1e9)), told(w(1), w(2), r(1, 5e8)), told(w(2), w(3), w(1000))),
		log(told(w(0), w(1), r(1, 31622)), marked(w(1), r(1, 31623), w(2))),
		log(marked(w(0), w(1e12), w(1)), told(w(1), w(3), w(1e12))), log(told(w(0), w(1), r(1e12, 999999937))),
		log(told(r(1, top), r(1, top-1), w(1)), marked(r(2, 1e9+7), w(1), r(3, 1e9+9))),
		log(marked(w(0), w(5), r(top-1, top)), told(r(top-1, top), w(1), w(1))),
	} {
		if n, e := audit.First(3, l); n != len(l) || e != api.OK {
			t.Errorf("First(3, %v) = %d, %v", l, n, e)
		}
	}
}

// even is a guess for the length 4 with the value of each point, and a point more.
func even() api.Guess {
	return api.Guess{Points: []api.Ratio{w(0), w(1), r(3, 2), w(2), w(3), w(4)}, F: []api.Ratio{w(0), w(1), r(3, 2), w(2), w(2), w(4)}}
}

// P5.3: Fits tells the first query that a guess does not fit.
func TestFits(t *testing.T) {
	for _, c := range []struct {
		log  []api.Query
		want int
	}{
		{nil, 0}, {[]api.Query{}, 0},
		{log(told(w(0), w(1), w(1)), told(w(1), w(3), w(1)), told(w(2), w(3), w(0)), told(w(4), w(4), w(0)), told(r(3, 2), w(4), r(5, 2))), 5},
		{log(told(w(0), w(1), w(2))), 0}, {log(told(w(0), w(1), w(1)), told(w(0), w(1), w(0))), 1}, {log(told(w(0), w(1), r(999, 1000))), 0},
		{log(fine(), fine(), fine(), told(w(1), w(1), w(1)), fine(), told(w(1), w(1), w(1))), 3},
		{log(marked(w(0), w(1), w(1)), marked(w(1), w(1), w(2)), marked(w(2), w(2), w(4)), marked(w(3), w(2), w(4))), 4},
		{log(fine(), marked(w(0), w(1), w(2))), 1}, {log(fine(), marked(w(0), w(2), w(1))), 1},
		// 3 has the value, but 2 has it already.
		{log(marked(w(0), w(2), w(2)), marked(w(0), w(2), w(3))), 1}, {log(marked(w(1), w(1), w(3))), 0},
		// The mark for 0 is the point itself, wherever else nothing more is.
		{log(marked(w(0), w(0), w(0)), marked(w(3), w(0), w(3)), marked(w(4), w(0), w(4)), marked(r(3, 2), w(0), r(3, 2))), 4},
		{log(marked(w(2), w(0), w(3))), 0}, {log(marked(w(0), w(0), w(1))), 0}, {log(marked(w(3), w(0), w(4))), 0}, {log(marked(w(0), w(1), w(0))), 0},
		{repeated(fine(), api.MaxAudit), api.MaxAudit}, {append(repeated(fine(), api.MaxAudit-1), told(w(0), w(1), w(2))), api.MaxAudit - 1},
	} {
		if n, e := audit.Fits(4, even(), c.log); n != c.want || e != api.OK {
			t.Errorf("Fits(4, %v, %v) = %d, %v; want %d", even(), c.log, n, e, c.want)
		}
	}
}

// line returns a valid guess with so many points for the length 1.
func line(many int64) api.Guess {
	var g api.Guess
	for i := range many {
		p := lowest(i, many-1)
		g.Points, g.F = append(g.Points, p), append(g.F, p)
	}
	return g
}

// P5.3: a guess may have from 2 to 100 points, its values any ratios that do not decrease.
func TestValidGuesses(t *testing.T) {
	ends := []api.Ratio{w(0), w(1)}
	for _, g := range []api.Guess{
		line(2), line(3), line(100),
		{Points: ends, F: []api.Ratio{w(0), w(0)}}, {Points: ends, F: []api.Ratio{w(0), w(top)}}, {Points: ends, F: []api.Ratio{w(0), r(1, top)}},
		{Points: []api.Ratio{w(0), r(1, top), r(1, top-1), w(1)}, F: []api.Ratio{w(0), r(top-1, top), r(top-1, top), w(1)}},
	} {
		if n, e := audit.Fits(1, g, log(told(w(0), w(0), w(0)))); n != 1 || e != api.OK {
			t.Errorf("Fits(%v) = %d, %v", g, n, e)
		}
	}
	long := api.Guess{Points: []api.Ratio{w(0), w(api.MaxLen)}, F: []api.Ratio{w(0), w(1)}}
	if n, e := audit.Fits(api.MaxLen, long, nil); n != 0 || e != api.OK {
		t.Errorf("Fits(%v) = %d, %v", long, n, e)
	}
}

// badGuesses are not valid for the length 1.
func badGuesses() []api.Guess {
	ends := []api.Ratio{w(0), w(1)}
	long, short := line(3), line(3)
	long.F, short.F = append(long.F, w(1)), short.F[:2]
	l := []api.Guess{
		{}, {Points: []api.Ratio{}, F: []api.Ratio{}}, {Points: ends}, {F: ends}, {Points: ends[:1], F: ends[:1]}, line(101), line(1000), long, short,
		{Points: ends[1:], F: ends[:1]},
		// points that do not begin with 0, do not end with 1, or do not increase
		{Points: []api.Ratio{r(1, 2), w(1)}, F: ends}, {Points: []api.Ratio{w(-1), w(1)}, F: ends}, {Points: []api.Ratio{w(-1), w(0), w(1)}, F: []api.Ratio{w(0), w(0), w(1)}},
		{Points: []api.Ratio{w(0), r(1, 2)}, F: ends}, {Points: []api.Ratio{w(0), w(2)}, F: ends}, {Points: []api.Ratio{w(0), w(1), w(2)}, F: []api.Ratio{w(0), w(1), w(1)}},
		{Points: []api.Ratio{w(0), w(0), w(1)}, F: []api.Ratio{w(0), w(0), w(1)}}, {Points: []api.Ratio{w(0), w(1), w(1)}, F: []api.Ratio{w(0), w(1), w(1)}},
		{Points: []api.Ratio{w(0), r(2, 3), r(1, 3), w(1)}, F: []api.Ratio{w(0), w(1), w(1), w(1)}},
		{Points: []api.Ratio{w(0), r(1, 2), r(1, 2), w(1)}, F: []api.Ratio{w(0), w(1), w(1), w(1)}},
		{Points: []api.Ratio{w(0), w(2), w(1)}, F: []api.Ratio{w(0), w(0), w(1)}},
		// values that do not begin with 0, or decrease
		{Points: ends, F: []api.Ratio{w(1), w(1)}}, {Points: ends, F: []api.Ratio{r(1, top), w(1)}}, {Points: ends, F: []api.Ratio{w(-1), w(1)}}, {Points: ends, F: []api.Ratio{w(0), w(-1)}},
		{Points: []api.Ratio{w(0), r(1, 2), w(1)}, F: []api.Ratio{w(0), w(2), w(1)}}, {Points: []api.Ratio{w(0), r(1, 2), w(1)}, F: []api.Ratio{w(0), r(1, top-1), r(1, top)}},
	}
	for _, a := range invalid() {
		l = append(l, api.Guess{Points: []api.Ratio{a, w(1)}, F: ends}, api.Guess{Points: []api.Ratio{w(0), a}, F: ends}, api.Guess{Points: []api.Ratio{w(0), a, w(1)}, F: []api.Ratio{w(0), w(0), w(1)}})
		l = append(l, api.Guess{Points: ends, F: []api.Ratio{a, w(1)}}, api.Guess{Points: ends, F: []api.Ratio{w(0), a}})
	}
	return l
}

// P5.3: a guess that is not valid is told, also if it lacks points, or has values that cannot be added.
func TestBadGuesses(t *testing.T) {
	for _, g := range badGuesses() {
		for _, l := range [][]api.Query{nil, log(fine()), log(told(r(1, 7), r(1, 5), w(1))), log(told(w(0), w(1), w(1)), told(w(1), w(1), w(top)))} {
			if n, e := audit.Fits(1, g, l); n != 0 || e != api.ErrBad {
				t.Errorf("Fits(1, %v, %v) = %d, %v", g, l, n, e)
			}
		}
	}
	// What is valid for one length is not for another.
	for _, n := range []int{1, 3, 5} {
		if got, e := audit.Fits(n, even(), nil); got != 0 || e != api.ErrBad {
			t.Errorf("Fits(%d, %v) = %d, %v", n, even(), got, e)
		}
	}
}

// P5.3: a guess needs all points of the transcript, also those of queries behind the first one that it does not fit.
func TestPointsOfGuess(t *testing.T) {
	for _, q := range []api.Query{
		told(r(1, 2), w(1), w(0)), told(w(1), r(5, 2), w(1)), marked(r(1, 2), w(1), w(1)), marked(w(1), w(1), r(5, 2)),
		told(r(7, 2), r(7, 2), w(0)), told(r(1, top), w(1), w(1)), marked(w(3), w(1), r(4*1000-1, 1000)),
	} {
		wrong, beyond := told(w(0), w(1), w(2)), told(w(4), w(4), w(top))
		for _, l := range [][]api.Query{log(q), log(fine(), q), log(q, fine()), log(wrong, q), log(q, wrong), log(beyond, q)} {
			if n, e := audit.Fits(4, even(), l); n != 0 || e != api.ErrArg {
				t.Errorf("Fits(4, %v, %v) = %d, %v", even(), l, n, e)
			}
		}
	}
	// An amount need not be a point.
	if n, e := audit.Fits(4, even(), log(marked(w(3), r(1, 2), w(4)))); n != 0 || e != api.OK {
		t.Errorf("Fits of an amount that is no point = %d, %v", n, e)
	}
}

// P5.3: a sum that has no ratio is told, unless a query before it does not fit.
func TestSumsOfFits(t *testing.T) {
	g := api.Guess{Points: []api.Ratio{w(0), w(1), w(2), w(3)}, F: []api.Ratio{w(0), r(1, top), r(1, 2), w(top)}}
	fits, wrong := told(w(0), w(2), r(1, 2)), told(w(0), w(2), w(1))
	for _, q := range []api.Query{
		told(w(3), w(3), w(1)), told(w(1), w(2), r(1, top-1)), told(w(2), w(3), w(top)), told(w(1), w(2), w(1e17)),
		marked(w(3), w(1), w(3)), marked(w(1), r(1, top-1), w(2)), marked(w(2), w(top), w(3)), marked(w(1), w(1e17), w(1)),
	} {
		for _, l := range [][]api.Query{log(q), log(fits, q), log(q, wrong), log(fits, q, wrong), log(fits, fits, q)} {
			if n, e := audit.Fits(3, g, l); n != 0 || e != api.ErrRange {
				t.Errorf("Fits(3, %v, %v) = %d, %v", g, l, n, e)
			}
		}
		if n, e := audit.Fits(3, g, log(fits, wrong, q)); n != 1 || e != api.OK {
			t.Errorf("Fits(3, %v, %v) = %d, %v", g, log(fits, wrong, q), n, e)
		}
	}
	// Great amounts that can be added are none: no scale is asked for here.
	if n, e := audit.Fits(3, g, log(told(w(0), w(3), w(top)), marked(w(0), r(1, top), w(1)), told(w(0), w(1), r(1, top)))); n != 3 || e != api.OK {
		t.Errorf("Fits with great amounts = %d, %v", n, e)
	}
}
