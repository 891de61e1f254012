package triple_test

import (
	"slices"
	"testing"

	"parcener/api"
	"parcener/triple"
)

// P10.1: the bound.
func TestBound(t *testing.T) {
	if got := triple.Bound(); got != 16 {
		t.Errorf("Bound() = %d; want 16", got)
	}
}

// sample is some cakes, and what the first part, and a run, must be: the queries of the first part, and those behind them.
type sample struct {
	l             []api.Cake
	s             api.Trimmed
	first, second []api.Query
	pieces        [][]api.Span
}

// three writes the pieces between 0, two points and an end short, for a first part in which nothing is trimmed.
func three(a, b, end api.Ratio, of ...int) api.Trimmed {
	return api.Trimmed{Pieces: [3]api.Span{span(r(0, 1), a), span(a, b), span(b, end)}, Piece: -1, Of: [3]int(of)}
}

// trimmed returns the result of a first part in which a piece is trimmed to begin at a point.
func trimmed(s api.Trimmed, piece int, at api.Ratio) api.Trimmed {
	s.Piece, s.Off = piece, span(s.Pieces[piece].From, at)
	s.Pieces[piece].From = at
	return s
}

// chapter returns the chapter's example.
func chapter() sample {
	zero, two, four, end, at := r(0, 1), r(2, 1), r(4, 1), r(6, 1), r(11, 2)
	return sample{
		example(), trimmed(three(two, four, end, 1, 2, 0), 2, at),
		[]api.Query{
			marked(0, zero, two, two), marked(0, zero, four, four),
			told(1, zero, two, two), told(1, two, four, two), marked(1, four, end, at),
			told(2, zero, two, four), told(2, two, four, zero), told(2, at, end, zero),
		},
		[]api.Query{
			told(2, four, at, zero), marked(2, four, zero, four), marked(2, four, zero, four),
			told(1, four, four, zero), told(1, four, four, zero), told(1, four, at, end),
			told(0, four, four, zero), told(0, four, four, zero),
		},
		[][]api.Span{{span(two, four)}, {span(four, end)}, {span(zero, two)}},
	}
}

// untrimmed returns samples in which nothing is trimmed.
func untrimmed() []sample {
	zero, one, two, end := r(0, 1), r(1, 1), r(2, 1), r(3, 1)
	return []sample{
		// Agents who agree: the agent 2 takes the first piece, the agent 1 the next one.
		{[]api.Cake{flat(3, 1), flat(3, 2), flat(3, 3)}, three(one, two, end, 2, 1, 0),
			[]api.Query{
				marked(0, zero, one, one), marked(0, zero, two, two), told(1, zero, one, two), told(1, one, two, two),
				told(2, zero, one, end), told(2, one, two, end), told(2, two, end, end),
			}, nil, [][]api.Span{{span(two, end)}, {span(one, two)}, {span(zero, one)}}},
		// Of two best pieces the agent 1 has the one that the agent 2 leaves.
		{[]api.Cake{flat(3, 1), steps(1, 4, 4), steps(0, 1, 0)}, three(one, two, end, 0, 2, 1),
			[]api.Query{
				marked(0, zero, one, one), marked(0, zero, two, two), told(1, zero, one, one), told(1, one, two, r(4, 1)),
				told(2, zero, one, zero), told(2, one, two, one), told(2, two, end, zero),
			}, nil, [][]api.Span{{span(zero, one)}, {span(two, end)}, {span(one, two)}}},
		{[]api.Cake{flat(3, 1), steps(4, 1, 4), steps(1, 2, 1)}, three(one, two, end, 2, 0, 1),
			[]api.Query{
				marked(0, zero, one, one), marked(0, zero, two, two), told(1, zero, one, r(4, 1)), told(1, one, two, one),
				told(2, zero, one, one), told(2, one, two, two), told(2, two, end, one),
			}, nil, [][]api.Span{{span(two, end)}, {span(zero, one)}, {span(one, two)}}},
		// The agent 0 marks the least points, before what is worth nothing for it.
		{[]api.Cake{steps(1, 0, 2, 0), steps(2, 1, 2, 0), steps(0, 0, 0, 1)}, three(one, r(5, 2), r(4, 1), 1, 0, 2),
			[]api.Query{
				marked(0, zero, one, one), marked(0, zero, two, r(5, 2)), told(1, zero, one, two), told(1, one, r(5, 2), two),
				told(2, zero, one, zero), told(2, one, r(5, 2), zero), told(2, r(5, 2), r(4, 1), one),
			}, nil, [][]api.Span{{span(one, r(5, 2))}, {span(zero, one)}, {span(r(5, 2), r(4, 1))}}},
	}
}

// takenByChooser returns samples in which the agent 2 takes the trimmed piece, so that the agent 1 divides what is off.
func takenByChooser() []sample {
	zero, one, two, end := r(0, 1), r(1, 1), r(2, 1), r(3, 1)
	third, more := r(1, 3), r(2, 3)
	return []sample{
		{[]api.Cake{flat(3, 1), steps(1, 3, 2), steps(1, 6, 1)}, trimmed(three(one, two, end, 0, 2, 1), 1, r(4, 3)),
			[]api.Query{
				marked(0, zero, one, one), marked(0, zero, two, two),
				told(1, zero, one, one), told(1, one, two, end), marked(1, one, one, r(4, 3)),
				told(2, zero, one, one), told(2, r(4, 3), two, r(4, 1)), told(2, two, end, one),
			},
			[]api.Query{
				told(1, one, r(4, 3), one), marked(1, one, third, r(10, 9)), marked(1, one, more, r(11, 9)),
				told(2, one, r(10, 9), more), told(2, r(10, 9), r(11, 9), more), told(2, r(11, 9), r(4, 3), more),
				told(0, r(10, 9), r(11, 9), r(1, 9)), told(0, r(11, 9), r(4, 3), r(1, 9)),
			},
			[][]api.Span{{span(zero, one), span(r(10, 9), r(11, 9))}, {span(r(11, 9), r(4, 3)), span(two, end)}, {span(one, r(10, 9)), span(r(4, 3), two)}}},
		// The trimmed piece is empty, and the first one of three that are worth nothing.
		{[]api.Cake{flat(3, 1), steps(1, 0, 0), steps(1, 0, 0)}, trimmed(three(one, two, end, 2, 1, 0), 0, one),
			[]api.Query{
				marked(0, zero, one, one), marked(0, zero, two, two),
				told(1, zero, one, one), told(1, one, two, zero), marked(1, zero, one, one),
				told(2, one, one, zero), told(2, one, two, zero), told(2, two, end, zero),
			},
			[]api.Query{
				told(1, zero, one, one), marked(1, zero, third, third), marked(1, zero, more, more),
				told(2, zero, third, third), told(2, third, more, third), told(2, more, one, third),
				told(0, third, more, third), told(0, more, one, third),
			},
			[][]api.Span{{span(third, more), span(two, end)}, {span(more, two)}, {span(zero, third)}}},
		// The trimmed piece is worth nothing for the agent 1, but it is not empty: the mark is the least one.
		{[]api.Cake{flat(6, 1), steps(3, 0, 0, 0, 0, 0), steps(0, 5, 0, 0, 0, 0)}, trimmed(three(two, r(4, 1), r(6, 1), 2, 1, 0), 0, one),
			[]api.Query{
				marked(0, zero, two, two), marked(0, zero, r(4, 1), r(4, 1)),
				told(1, zero, two, end), told(1, two, r(4, 1), zero), marked(1, zero, end, one),
				told(2, one, two, r(5, 1)), told(2, two, r(4, 1), zero), told(2, r(4, 1), r(6, 1), zero),
			},
			[]api.Query{
				told(1, zero, one, end), marked(1, zero, one, third), marked(1, zero, two, more),
				told(2, zero, third, zero), told(2, third, more, zero), told(2, more, one, zero),
				told(0, third, more, third), told(0, more, one, third),
			},
			[][]api.Span{{span(third, more), span(r(4, 1), r(6, 1))}, {span(more, one), span(two, r(4, 1))}, {span(zero, third), span(one, two)}}},
	}
}

// takenByTrimmer returns samples in which the agent 1 has the trimmed piece, so that the agent 2 divides what is off.
func takenByTrimmer() []sample {
	zero, one, two, end := r(0, 1), r(1, 1), r(2, 1), r(3, 1)
	third := r(1, 3)
	return []sample{
		chapter(),
		// The trimmed piece is empty.
		{[]api.Cake{flat(3, 1), steps(0, 1, 0), steps(1, 2, 1)}, trimmed(three(one, two, end, 2, 1, 0), 1, two),
			[]api.Query{
				marked(0, zero, one, one), marked(0, zero, two, two),
				told(1, zero, one, zero), told(1, one, two, one), marked(1, one, one, two),
				told(2, zero, one, one), told(2, two, two, zero), told(2, two, end, one),
			},
			[]api.Query{
				told(2, one, two, two), marked(2, one, r(2, 3), r(4, 3)), marked(2, one, r(4, 3), r(5, 3)),
				told(1, one, r(4, 3), third), told(1, r(4, 3), r(5, 3), third), told(1, r(5, 3), two, third),
				told(0, r(4, 3), r(5, 3), third), told(0, r(5, 3), two, third),
			},
			[][]api.Span{{span(r(4, 3), r(5, 3)), span(two, end)}, {span(one, r(4, 3))}, {span(zero, one), span(r(5, 3), two)}}},
		// The agent 1 takes the last crumb, and the agent 0, for which the two that are left are worth the same, the first one.
		{[]api.Cake{steps(1, 1, 4, 3, 3, 3, 3), steps(1, 1, 10, 0, 2, 0, 2), steps(1, 1, 1, 0, 4, 0, 0)}, trimmed(three(end, r(5, 1), r(7, 1), 2, 0, 1), 0, r(14, 5)),
			[]api.Query{
				marked(0, zero, r(6, 1), end), marked(0, zero, r(12, 1), r(5, 1)),
				told(1, zero, end, r(12, 1)), told(1, end, r(5, 1), two), marked(1, zero, r(10, 1), r(14, 5)),
				told(2, r(14, 5), end, r(1, 5)), told(2, end, r(5, 1), r(4, 1)), told(2, r(5, 1), r(7, 1), zero),
			},
			[]api.Query{
				told(2, zero, r(14, 5), r(14, 5)), marked(2, zero, r(14, 15), r(14, 15)), marked(2, zero, r(28, 15), r(28, 15)),
				told(1, zero, r(14, 15), r(14, 15)), told(1, r(14, 15), r(28, 15), r(14, 15)), told(1, r(28, 15), r(14, 5), r(122, 15)),
				told(0, zero, r(14, 15), r(14, 15)), told(0, r(14, 15), r(28, 15), r(14, 15)),
			},
			[][]api.Span{{span(zero, r(14, 15)), span(r(5, 1), r(7, 1))}, {span(r(28, 15), end)}, {span(r(14, 15), r(28, 15)), span(end, r(5, 1))}}},
	}
}

// samples returns all of them.
func samples() []sample {
	return slices.Concat(untrimmed(), takenByChooser(), takenByTrimmer())
}

// P10.1: the first part has its result, and its queries are put behind the log, whatever that is.
func TestFirst(t *testing.T) {
	for _, c := range samples() {
		for _, many := range []int{0, 3, api.MaxQuery - len(c.first)} {
			d := api.Desk{Cakes: c.l, Log: filled(many)}
			want := api.Desk{Cakes: c.l, Log: slices.Concat(d.Log, c.first)}
			next, s, e := triple.First(d)
			if !sameDesk(next, want) || s != c.s || e != api.OK {
				t.Errorf("First(%v) behind %d queries = %v, %v, %v; want %v, %v", c.l, many, next.Log, s, e, c.first, c.s)
			}
		}
	}
}

// checkError reports a first part that does not have an error, or anything beside it.
func checkError(t *testing.T, d api.Desk, want api.Errno) {
	t.Helper()
	next, s, e := triple.First(d)
	if !sameDesk(next, api.Desk{}) || s != (api.Trimmed{}) || e != want {
		t.Errorf("First(%v) behind %d queries = %v, %v, %v; want %v", d.Cakes, len(d.Log), next, s, e, want)
	}
}

// P10.1: the error of the desk comes ahead of ErrArg for those who are not three, and that ahead of the error of a query.
func TestFirstOfBadDesks(t *testing.T) {
	for _, f := range badDesks() {
		checkError(t, f.d, f.e)
	}
}

// P10.1: a log that has not room for all queries of the first part is ErrMany, with all else zero.
func TestFirstFillsLog(t *testing.T) {
	for _, c := range samples() {
		for room := range len(c.first) {
			checkError(t, api.Desk{Cakes: c.l, Log: filled(api.MaxQuery - room)}, api.ErrMany)
		}
	}
}

// P10.2: a run has these pieces, the result of its first part, and the queries of both parts.
func TestRun(t *testing.T) {
	for _, c := range samples() {
		d, s, log, e := triple.Run(c.l)
		if !sameDivision(d, api.Division{Pieces: c.pieces}) || s != c.s || e != api.OK {
			t.Errorf("Run(%v) = %v, %v, %v; want %v, %v", c.l, d, s, e, c.pieces, c.s)
		}
		if want := slices.Concat(c.first, c.second); !slices.Equal(log, want) {
			t.Errorf("Run(%v): the log is %v; want %v", c.l, log, want)
		}
	}
}

// P10.2: with cakes that are not those of three agents, Run has First's error, and all else is zero.
func TestRunOfBadCakes(t *testing.T) {
	for _, f := range badDesks() {
		_, _, want := triple.First(api.Desk{Cakes: f.d.Cakes})
		d, s, log, e := triple.Run(f.d.Cakes)
		if len(f.d.Log) == 0 && e != f.e || e != want {
			t.Errorf("Run(%v) = %v; want %v", f.d.Cakes, e, want)
		}
		if e != api.OK && (len(d.Pieces) != 0 || s != (api.Trimmed{}) || len(log) != 0) {
			t.Errorf("Run(%v) = %v, %v, %v beside an error", f.d.Cakes, d, s, log)
		}
	}
}
