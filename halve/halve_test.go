package halve_test

import (
	"math"
	"slices"
	"testing"

	"parcener/api"
	"parcener/halve"
)

// P9.1: the bound for as many agents as there may be, and ErrArg for all other numbers.
func TestBound(t *testing.T) {
	for i, want := range []int{0, 2, 9, 12, 25, 30} {
		if got, e := halve.Bound(i + 1); got != want || e != api.OK {
			t.Errorf("Bound(%d) = %d, %v; want %d", i+1, got, e, want)
		}
	}
	for _, n := range []int{0, api.MaxAgents + 1, 8, -1, -2, 100, math.MinInt, math.MaxInt} {
		if got, e := halve.Bound(n); got != 0 || e != api.ErrArg {
			t.Errorf("Bound(%d) = %d, %v; want ErrArg", n, got, e)
		}
	}
}

// divided is a split of some cakes, and what it gives.
type divided struct {
	l      []api.Cake
	agents []int
	s      api.Span
	o      outcome
}

// span writes a span short.
func span(from, to api.Ratio) api.Span { return api.Span{From: from, To: to} }

// cut writes an outcome short.
func cut(at api.Ratio, left, right []int, asked ...api.Query) outcome {
	return outcome{at: at, left: left, right: right, asked: asked}
}

// examples returns the splits of the chapter's example, and others of its cakes.
func examples() []divided {
	l, zero, end := example(), r(0, 1), r(6, 1)
	return []divided{
		{l, []int{0, 1, 2}, span(zero, end), cut(r(2, 3), []int{2}, []int{0, 1},
			marked(0, zero, r(2, 1), r(2, 1)), marked(1, zero, r(4, 1), r(4, 1)), marked(2, zero, r(4, 3), r(2, 3)))},
		{l, []int{0, 1}, span(r(2, 3), end), cut(r(10, 3), []int{0}, []int{1},
			told(0, r(2, 3), end, r(16, 3)), marked(0, r(2, 3), r(8, 3), r(10, 3)), told(1, r(2, 3), end, r(34, 3)), marked(1, r(2, 3), r(17, 3), r(55, 12)))},
		{l, []int{1, 2}, span(zero, end), cut(r(1, 1), []int{2}, []int{1},
			marked(1, zero, r(6, 1), r(9, 2)), marked(2, zero, r(2, 1), r(1, 1)))},
		// From the beginning, but not to the end, all are asked for values; and so from another point to the end.
		{l, []int{0, 2}, span(zero, r(3, 1)), cut(r(1, 1), []int{2}, []int{0},
			told(0, zero, r(3, 1), r(3, 1)), marked(0, zero, r(3, 2), r(3, 2)), told(2, zero, r(3, 1), r(4, 1)), marked(2, zero, r(2, 1), r(1, 1)))},
		{l, []int{0, 1}, span(r(4, 1), end), cut(r(5, 1), []int{0}, []int{1},
			told(0, r(4, 1), end, r(2, 1)), marked(0, r(4, 1), r(1, 1), r(5, 1)), told(1, r(4, 1), end, r(8, 1)), marked(1, r(4, 1), r(4, 1), r(5, 1)))},
		// Who gives nothing to what is split is asked for the mark for nothing, which is where it begins.
		{l, []int{0, 2}, span(r(3, 1), end), cut(r(3, 1), []int{2}, []int{0},
			told(0, r(3, 1), end, r(3, 1)), marked(0, r(3, 1), r(3, 2), r(9, 2)), told(2, r(3, 1), end, zero), marked(2, r(3, 1), zero, r(3, 1)))},
		// A third of a value between two points within the cake.
		{l, []int{0, 1, 2}, span(r(1, 1), r(5, 1)), cut(r(4, 3), []int{2}, []int{0, 1},
			told(0, r(1, 1), r(5, 1), r(4, 1)), marked(0, r(1, 1), r(4, 3), r(7, 3)),
			told(1, r(1, 1), r(5, 1), r(7, 1)), marked(1, r(1, 1), r(7, 3), r(10, 3)),
			told(2, r(1, 1), r(5, 1), r(2, 1)), marked(2, r(1, 1), r(2, 3), r(4, 3)))},
	}
}

// edges returns splits of many agents, with marks that are the same, in other orders, or at the beginning.
func edges() []divided {
	zero, one, two := r(0, 1), r(1, 1), r(2, 1)
	first := []api.Cake{steps(1, 0, 0), steps(2, 0, 0), steps(3, 0, 0)}
	return []divided{
		// Agents who agree go by their numbers; of an odd number the smaller part goes to the left.
		{alike(4), []int{0, 1, 2, 3}, span(zero, r(4, 1)), cut(two, []int{0, 1}, []int{2, 3},
			marked(0, zero, two, two), marked(1, zero, r(4, 1), two), marked(2, zero, r(6, 1), two), marked(3, zero, r(8, 1), two))},
		{alike(5), []int{0, 1, 2, 3, 4}, span(zero, r(5, 1)), cut(two, []int{0, 1}, []int{2, 3, 4},
			marked(0, zero, two, two), marked(1, zero, r(4, 1), two), marked(2, zero, r(6, 1), two), marked(3, zero, r(8, 1), two), marked(4, zero, r(10, 1), two))},
		{wanting(5, 4, 3, 2, 1, 0), []int{0, 1, 2, 3, 4, 5}, span(zero, r(6, 1)), cut(r(5, 2), []int{3, 4, 5}, []int{0, 1, 2},
			marked(0, zero, r(1, 2), r(11, 2)), marked(1, zero, r(1, 2), r(9, 2)), marked(2, zero, r(1, 2), r(7, 2)),
			marked(3, zero, r(1, 2), r(5, 2)), marked(4, zero, r(1, 2), r(3, 2)), marked(5, zero, r(1, 2), r(1, 2)))},
		{wanting(0, 5, 1, 3, 2, 4), []int{0, 1, 3, 5}, span(zero, r(6, 1)), cut(r(7, 2), []int{0, 3}, []int{1, 5},
			marked(0, zero, r(1, 2), r(1, 2)), marked(1, zero, r(1, 2), r(11, 2)), marked(3, zero, r(1, 2), r(7, 2)), marked(5, zero, r(1, 2), r(9, 2)))},
		// Two have the mark that is the cut, and just one of them goes to the left of it.
		{[]api.Cake{steps(0, 0, 3, 3), steps(0, 2, 2, 0), steps(1, 1, 0, 0), flat(4, 5)}, []int{0, 1, 2, 3}, span(zero, r(4, 1)), cut(two, []int{1, 2}, []int{0, 3},
			marked(0, zero, r(3, 1), r(3, 1)), marked(1, zero, two, two), marked(2, zero, one, one), marked(3, zero, r(10, 1), two))},
		// The mark is the least point, before what is worth nothing.
		{[]api.Cake{steps(1, 0, 1), steps(0, 4, 0)}, []int{0, 1}, span(zero, r(3, 1)), cut(one, []int{0}, []int{1},
			marked(0, zero, one, one), marked(1, zero, two, r(3, 2)))},
		// Nobody wants anything of it.
		{first, []int{0, 2}, span(one, two), cut(one, []int{0}, []int{2},
			told(0, one, two, zero), marked(0, one, zero, one), told(2, one, two, zero), marked(2, one, zero, one))},
		{first, []int{0, 1, 2}, span(r(3, 2), r(3, 1)), cut(r(3, 2), []int{0}, []int{1, 2},
			told(0, r(3, 2), r(3, 1), zero), marked(0, r(3, 2), zero, r(3, 2)), told(1, r(3, 2), r(3, 1), zero), marked(1, r(3, 2), zero, r(3, 2)),
			told(2, r(3, 2), r(3, 1), zero), marked(2, r(3, 2), zero, r(3, 2)))},
		// What is split, or where it begins, has hardly a ratio.
		{[]api.Cake{steps(4, 0), steps(12, 1)}, []int{0, 1}, span(zero, r(1, top/2)), cut(r(1, top), []int{0}, []int{1},
			told(0, zero, r(1, top/2), r(1, top/8)), marked(0, zero, r(1, top/4), r(1, top)),
			told(1, zero, r(1, top/2), r(3, top/8)), marked(1, zero, r(3, top/4), r(1, top)))},
		{[]api.Cake{steps(1, 1), steps(2, 2)}, []int{0, 1}, span(r(1, top), r(3, top)), cut(r(1, top/2), []int{0}, []int{1},
			told(0, r(1, top), r(3, top), r(1, top/2)), marked(0, r(1, top), r(1, top), r(1, top/2)),
			told(1, r(1, top), r(3, top), r(1, top/4)), marked(1, r(1, top), r(1, top/2), r(1, top/2)))},
	}
}

// P9.1: a split has its cut and the agents on both sides, and its queries are put behind the log, whatever that is.
func TestSplit(t *testing.T) {
	for _, c := range slices.Concat(examples(), edges()) {
		for _, many := range []int{0, 3, api.MaxQuery - len(c.o.asked)} {
			d := api.Desk{Cakes: c.l, Log: filled(many)}
			want := api.Desk{Cakes: c.l, Log: slices.Concat(d.Log, c.o.asked)}
			next, at, left, right, e := halve.Split(d, c.agents, c.s.From, c.s.To)
			if !sameDesk(next, want) || !sameCut(cut(at, left, right), c.o) || e != api.OK {
				t.Errorf("Split(%v, %v, %v) behind %d queries = %v, %v, %v, %v, %v; want %v", c.l, c.agents, c.s, many, next.Log, at, left, right, e, c.o)
			}
		}
	}
}

// checkError reports a split that does not have an error, or anything beside it.
func checkError(t *testing.T, c task, want api.Errno) {
	t.Helper()
	next, at, left, right, e := halve.Split(c.d, c.agents, c.s.From, c.s.To)
	if !sameDesk(next, api.Desk{}) || !sameCut(cut(at, left, right), outcome{}) || e != want {
		t.Errorf("Split(%v, %v, %v) behind %d queries = %v, %v, %v, %v, %v; want %v", c.d.Cakes, c.agents, c.s, len(c.d.Log), next, at, left, right, e, want)
	}
}

// P9.1: the error of the desk comes ahead of ErrArg.
func TestSplitOfBadDesks(t *testing.T) {
	for _, f := range badDesks() {
		for _, agents := range append(noAgents(), []int{0, 1}) {
			for _, s := range []api.Span{span(r(0, 1), r(2, 1)), span(r(0, 1), r(1, top)), span(r(1, 1), r(1, 1)), {}} {
				checkError(t, task{f.d, agents, s}, f.e)
			}
		}
	}
}

// P9.1: ErrArg for what are no agents, or not two points in their order, ahead of the error of a query.
func TestSplitArguments(t *testing.T) {
	for _, many := range []int{0, 5, api.MaxQuery} {
		d := api.Desk{Cakes: example(), Log: filled(many)}
		for _, agents := range noAgents() {
			for _, s := range append(noSpans(), span(r(0, 1), r(6, 1)), span(r(1, 1), r(3, 2)), span(r(0, 1), r(1, top))) {
				checkError(t, task{d, agents, s}, api.ErrArg)
			}
		}
		for _, agents := range [][]int{{0, 1}, {0, 2}, {1, 2}, {0, 1, 2}} {
			for _, s := range noSpans() {
				checkError(t, task{d, agents, s}, api.ErrArg)
			}
		}
	}
	alone := api.Desk{Cakes: []api.Cake{flat(1, 1)}}
	checkError(t, task{alone, []int{0}, span(r(0, 1), r(1, 1))}, api.ErrArg)
	checkError(t, task{alone, []int{0, 1}, span(r(0, 1), r(1, 1))}, api.ErrArg)
}

// trouble is a split that has an error behind some queries: a value, a part of one, or a mark, or a number on the way to it, that has no ratio.
type trouble struct {
	l      []api.Cake
	agents []int
	s      api.Span
	before int
}

func troubles() []trouble {
	zero, tiny, end := r(0, 1), r(1, top), r(2, 1)
	far := []api.Cake{steps(0, 2), steps(1, 1), steps(0, 4)}
	near := []api.Cake{steps(0, 2), steps(1, 1), steps(2, 0)}
	return []trouble{
		// the value for the first one, and for the second one alone
		{alike(2), []int{0, 1}, span(tiny, end), 0},
		{far, []int{0, 1}, span(tiny, end), 2},
		{far, []int{0, 1, 2}, span(tiny, end), 2},
		{far, []int{1, 2}, span(tiny, end), 0},
		// half of the value
		{near, []int{0, 1}, span(zero, tiny), 3},
		{near, []int{1, 2}, span(zero, tiny), 1},
		{near, []int{0, 1, 2}, span(zero, tiny), 3},
		{alike(2), []int{0, 1}, span(tiny, r(1, 1)), 1},
		// The value and its half have ratios, the mark has none.
		{near, []int{0, 2}, span(zero, tiny), 3},
		{[]api.Cake{steps(0, 2), steps(0, 3)}, []int{0, 1}, span(zero, r(top/2+1, top/2)), 1},
		// A mark goes by what lies behind it, also if that is not split.
		{[]api.Cake{flat(2, 1), steps(1, 1)}, []int{0, 1}, span(tiny, r(3, top)), 1},
		{[]api.Cake{steps(1, 1), flat(2, 1)}, []int{0, 1}, span(tiny, r(3, top)), 3},
	}
}

// P9.1: the first error of a query, or of a part of a value, with all else zero; a log that is full is an error only if there is none of the cake.
func TestSplitErrorsOfQueries(t *testing.T) {
	for _, c := range troubles() {
		for room := range 7 {
			want := api.ErrRange
			if room < c.before {
				want = api.ErrMany
			}
			checkError(t, task{api.Desk{Cakes: c.l, Log: filled(api.MaxQuery - room)}, c.agents, c.s}, want)
		}
		checkError(t, task{api.Desk{Cakes: c.l}, c.agents, c.s}, api.ErrRange)
	}
}

// P9.1: a log that has not room for all queries of a split is ErrMany.
func TestSplitFillsLog(t *testing.T) {
	for _, c := range slices.Concat(examples(), edges()) {
		for room := range len(c.o.asked) {
			checkError(t, task{api.Desk{Cakes: c.l, Log: filled(api.MaxQuery - room)}, c.agents, c.s}, api.ErrMany)
		}
	}
}

// ran is cakes, with the spans of their agents after a run, and how many queries it has.
type ran struct {
	l     []api.Cake
	spans []api.Span
	many  int
}

// division returns the division of a run.
func (c ran) division() api.Division {
	var d api.Division
	for _, s := range c.spans {
		d.Pieces = append(d.Pieces, []api.Span{s})
	}
	return d
}

// row returns a run of n agents who have pieces of the same length, of which an agent has that at its place.
func row(l []api.Cake, many int, places ...int) ran {
	c := ran{l: l, many: many}
	for _, place := range places {
		c.spans = append(c.spans, span(r(int64(place), 1), r(int64(place)+1, 1)))
	}
	return c
}

func runs() []ran {
	zero, one := r(0, 1), r(1, 1)
	return []ran{
		// the chapter's example
		{example(), []api.Span{span(r(2, 3), r(10, 3)), span(r(10, 3), r(6, 1)), span(zero, r(2, 3))}, 7},
		// Alone an agent has all, and nobody is asked.
		{[]api.Cake{flat(5, 3)}, []api.Span{span(zero, r(5, 1))}, 0},
		{[]api.Cake{steps(0, 0, 1, 0)}, []api.Span{span(zero, r(4, 1))}, 0},
		// Agents who agree have pieces in their order.
		row(alike(1), 0, 0),
		row(alike(2), 2, 0, 1),
		row(alike(3), 7, 0, 1, 2),
		row(alike(4), 12, 0, 1, 2, 3),
		row(alike(5), 19, 0, 1, 2, 3, 4),
		row(alike(6), 26, 0, 1, 2, 3, 4, 5),
		// Who wants what lies further to the right has a piece further to the right, cut off where somebody has half of what it wants, or a third of it.
		{wanting(1, 0), []api.Span{span(r(1, 2), r(2, 1)), span(zero, r(1, 2))}, 2},
		{wanting(2, 1, 0), []api.Span{span(r(3, 2), r(3, 1)), span(r(1, 3), r(3, 2)), span(zero, r(1, 3))}, 7},
		{wanting(3, 2, 1, 0), []api.Span{span(r(5, 2), r(4, 1)), span(r(3, 2), r(5, 2)), span(r(1, 2), r(3, 2)), span(zero, r(1, 2))}, 12},
		// A part that nobody wants lies in a piece that somebody has to have.
		{[]api.Cake{steps(1, 0, 0), steps(1, 0, 0)}, []api.Span{span(zero, r(1, 2)), span(r(1, 2), r(3, 1))}, 2},
		{[]api.Cake{steps(0, 0, 1), steps(0, 0, 1)}, []api.Span{span(zero, r(5, 2)), span(r(5, 2), r(3, 1))}, 2},
		{[]api.Cake{steps(1, 0, 1), steps(1, 0, 1)}, []api.Span{span(zero, one), span(one, r(3, 1))}, 2},
		{[]api.Cake{flat(api.MaxLen, api.MaxDens), flat(api.MaxLen, 1)}, []api.Span{span(zero, r(500, 1)), span(r(500, 1), r(1000, 1))}, 2},
	}
}

// P9.2: a run has these pieces, and so many queries.
func TestRun(t *testing.T) {
	for _, c := range runs() {
		if d, log, e := halve.Run(c.l); !sameDivision(d, c.division()) || len(log) != c.many || e != api.OK {
			t.Errorf("Run(%v) = %v, %v, %v; want %v, %d queries", c.l, d, log, e, c.spans, c.many)
		}
	}
}

// P9.2: the log of a run has the splits in their order: that of all, those on the left of its cut, and those on the right.
func TestRunLog(t *testing.T) {
	zero, one, two := r(0, 1), r(1, 1), r(2, 1)
	four := alike(4)
	for _, c := range []struct {
		l    []api.Cake
		want []api.Query
	}{
		{example(), slices.Concat(examples()[0].o.asked, examples()[1].o.asked)},
		{four, slices.Concat(edges()[0].o.asked, []api.Query{
			told(0, zero, two, two), marked(0, zero, one, one), told(1, zero, two, r(4, 1)), marked(1, zero, two, one),
			told(2, two, r(4, 1), r(6, 1)), marked(2, two, r(3, 1), r(3, 1)), told(3, two, r(4, 1), r(8, 1)), marked(3, two, r(4, 1), r(3, 1)),
		})},
	} {
		if _, log, e := halve.Run(c.l); !slices.Equal(log, c.want) || e != api.OK {
			t.Errorf("Run(%v): the log is %v, %v; want %v", c.l, log, e, c.want)
		}
	}
}

// P9.2: with cakes that are not those of a desk, Run has ask.Check's error, and all else is zero.
func TestRunOfBadCakes(t *testing.T) {
	for _, f := range badCakes() {
		if d, log, e := halve.Run(f.d.Cakes); len(d.Pieces) != 0 || len(log) != 0 || e != f.e {
			t.Errorf("Run(%v) = %v, %v, %v; want %v", f.d.Cakes, d, log, e, f.e)
		}
	}
}
