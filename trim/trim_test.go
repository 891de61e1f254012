package trim_test

import (
	"math"
	"slices"
	"testing"

	"parcener/api"
	"parcener/trim"
)

// P8.1: the bound for as many agents as there may be, and ErrArg for all other numbers.
func TestBound(t *testing.T) {
	for i, want := range []int{0, 3, 8, 15, 24, 35} {
		if got, e := trim.Bound(i + 1); got != want || e != api.OK {
			t.Errorf("Bound(%d) = %d, %v; want %d", i+1, got, e, want)
		}
	}
	for _, n := range []int{0, api.MaxAgents + 1, -1, -2, 100, math.MinInt, math.MaxInt} {
		if got, e := trim.Bound(n); got != 0 || e != api.ErrArg {
			t.Errorf("Bound(%d) = %d, %v; want ErrArg", n, got, e)
		}
	}
}

// played is a round: its cakes, agents and point, its turn, and what is asked.
type played struct {
	l      []api.Cake
	agents []int
	from   api.Ratio
	turn   api.Turn
	asked  []api.Query
}

// turn writes a turn short.
func turn(agent int, from, to api.Ratio, trims int) api.Turn {
	return api.Turn{Agent: agent, From: from, To: to, Trims: trims}
}

// examples returns the rounds of the chapter's example, and others of its cakes: the shares are 2, 4 and 4/3 in all of them.
func examples() []played {
	l, zero := example(), r(0, 1)
	return []played{
		{l, []int{0, 1, 2}, zero, turn(2, zero, r(2, 3), 1), []api.Query{
			marked(0, zero, r(2, 1), r(2, 1)), told(1, zero, r(2, 1), r(2, 1)),
			told(2, zero, r(2, 1), r(4, 1)), marked(2, zero, r(4, 3), r(2, 3)),
		}},
		{l, []int{0, 1}, r(2, 3), turn(0, r(2, 3), r(8, 3), 0), []api.Query{
			marked(0, r(2, 3), r(2, 1), r(8, 3)), told(1, r(2, 3), r(8, 3), r(2, 1)),
		}},
		{l, []int{1}, r(8, 3), turn(1, r(8, 3), r(6, 1), 0), nil},
		{l, []int{1, 2}, zero, turn(2, zero, r(2, 3), 1), []api.Query{
			marked(1, zero, r(4, 1), r(4, 1)), told(2, zero, r(4, 1), r(4, 1)), marked(2, zero, r(4, 3), r(2, 3)),
		}},
		{l, []int{0, 2}, r(2, 3), turn(2, r(2, 3), r(4, 3), 1), []api.Query{
			marked(0, r(2, 3), r(2, 1), r(8, 3)), told(2, r(2, 3), r(8, 3), r(8, 3)), marked(2, r(2, 3), r(4, 3), r(4, 3)),
		}},
		// Those who give nothing to what is left can be in a round, unless they are asked first for what they would need.
		{l, []int{0, 2}, r(3, 1), turn(0, r(3, 1), r(5, 1), 0), []api.Query{
			marked(0, r(3, 1), r(2, 1), r(5, 1)), told(2, r(3, 1), r(5, 1), zero),
		}},
		// The piece may reach the end.
		{l, []int{0, 2}, r(4, 1), turn(0, r(4, 1), r(6, 1), 0), []api.Query{
			marked(0, r(4, 1), r(2, 1), r(6, 1)), told(2, r(4, 1), r(6, 1), zero),
		}},
		// One agent gets what is left, also if it is little or nothing for it.
		{l, []int{2}, r(3, 1), turn(2, r(3, 1), r(6, 1), 0), nil},
		{l, []int{0}, zero, turn(0, zero, r(6, 1), 0), nil},
		{l, []int{1}, r(top-1, top/2), turn(1, r(top-1, top/2), r(6, 1), 0), nil},
	}
}

// edges returns rounds with many trims, with none, and with pieces that have just the share of those behind.
func edges() []played {
	zero, one := r(0, 1), r(1, 1)
	return []played{
		{falling(3), []int{0, 1, 2}, zero, turn(2, zero, r(1, 3), 2), []api.Query{
			marked(0, zero, one, one), told(1, zero, one, one), marked(1, zero, r(2, 3), r(2, 3)),
			told(2, zero, r(2, 3), r(2, 3)), marked(2, zero, r(1, 3), r(1, 3)),
		}},
		{alike(3), []int{0, 1, 2}, zero, turn(0, zero, one, 0), []api.Query{
			marked(0, zero, one, one), told(1, zero, one, r(2, 1)), told(2, zero, one, r(3, 1)),
		}},
		{alike(3), []int{1, 2}, one, turn(1, one, r(2, 1), 0), []api.Query{
			marked(1, one, r(2, 1), r(2, 1)), told(2, one, r(2, 1), r(3, 1)),
		}},
		// Just the share is not more, also if a shorter piece would have it.
		{[]api.Cake{flat(4, 1), steps(3, 0, 0, 3)}, []int{0, 1}, zero, turn(0, zero, r(2, 1), 0), []api.Query{
			marked(0, zero, r(2, 1), r(2, 1)), told(1, zero, r(2, 1), r(3, 1)),
		}},
		{[]api.Cake{flat(4, 1), steps(4, 0, 0, 3)}, []int{0, 1}, zero, turn(1, zero, r(7, 8), 1), []api.Query{
			marked(0, zero, r(2, 1), r(2, 1)), told(1, zero, r(2, 1), r(4, 1)), marked(1, zero, r(7, 2), r(7, 8)),
		}},
		// Who comes behind one who trimmed is asked about the trimmed piece.
		{[]api.Cake{flat(3, 1), steps(2, 1, 0), steps(3, 4, 2)}, []int{0, 1, 2}, zero, turn(1, zero, r(1, 2), 1), []api.Query{
			marked(0, zero, one, one), told(1, zero, one, r(2, 1)), marked(1, zero, one, r(1, 2)), told(2, zero, r(1, 2), r(3, 2)),
		}},
		// One of those between does not trim.
		{[]api.Cake{flat(3, 1), steps(0, 0, 1), steps(9, 3, 0)}, []int{0, 1, 2}, zero, turn(2, zero, r(4, 9), 1), []api.Query{
			marked(0, zero, one, one), told(1, zero, one, zero), told(2, zero, one, r(9, 1)), marked(2, zero, r(4, 1), r(4, 9)),
		}},
	}
}

// P8.1: a round has its turn, and its queries are put behind the log, whatever that is.
func TestRound(t *testing.T) {
	for _, c := range slices.Concat(examples(), edges()) {
		for _, many := range []int{0, 3, api.MaxQuery - len(c.asked)} {
			d := api.Desk{Cakes: c.l, Log: filled(many)}
			want := api.Desk{Cakes: c.l, Log: slices.Concat(d.Log, c.asked)}
			if next, got, e := trim.Round(d, c.agents, c.from); !sameDesk(next, want) || got != c.turn || e != api.OK {
				t.Errorf("Round(%v, %v, %v) behind %d queries = %v, %v, %v; want %v, %v", c.l, c.agents, c.from, many, next.Log, got, e, c.asked, c.turn)
			}
		}
	}
}

// checkError reports a round that does not have an error, or anything beside it.
func checkError(t *testing.T, c task, want api.Errno) {
	t.Helper()
	if next, turn, e := trim.Round(c.d, c.agents, c.from); !sameDesk(next, api.Desk{}) || turn != (api.Turn{}) || e != want {
		t.Errorf("Round(%v, %v, %v) behind %d queries = %v, %v, %v; want %v", c.d.Cakes, c.agents, c.from, len(c.d.Log), next, turn, e, want)
	}
}

// P8.1: the error of the desk comes ahead of ErrArg.
func TestRoundOfBadDesks(t *testing.T) {
	for _, f := range badDesks() {
		for _, agents := range append(noAgents(), []int{0}, []int{0, 1}) {
			for _, from := range []api.Ratio{r(0, 1), {}, r(1, top), r(6, 1)} {
				checkError(t, task{f.d, agents, from}, f.e)
			}
		}
	}
}

// P8.1: ErrArg for what are no agents, or no point before the end, ahead of the error of a query.
func TestRoundArguments(t *testing.T) {
	for _, many := range []int{0, 5, api.MaxQuery} {
		d := api.Desk{Cakes: example(), Log: filled(many)}
		for _, agents := range noAgents() {
			for _, from := range append(noStarts(), r(0, 1), r(5, 1), r(1, top)) {
				checkError(t, task{d, agents, from}, api.ErrArg)
			}
		}
		for _, agents := range [][]int{{0}, {1}, {2}, {0, 1}, {0, 2}, {1, 2}, {0, 1, 2}} {
			for _, from := range noStarts() {
				checkError(t, task{d, agents, from}, api.ErrArg)
			}
		}
	}
	alone := api.Desk{Cakes: []api.Cake{flat(1, 1)}}
	checkError(t, task{alone, []int{1}, r(0, 1)}, api.ErrArg)
	checkError(t, task{alone, []int{0, 1}, r(0, 1)}, api.ErrArg)
	checkError(t, task{alone, []int{0}, r(1, 1)}, api.ErrArg)
}

// troubles returns rounds, one of whose queries has an error of its cake, with as many queries as are asked before it.
func troubles() []struct {
	l      []api.Cake
	agents []int
	from   api.Ratio
	before int
	e      api.Errno
} {
	none, out := api.ErrNone, api.ErrRange
	two, late, tiny := alike(2), []api.Cake{steps(2, 0), flat(2, 1)}, r(1, top)
	return []struct {
		l      []api.Cake
		agents []int
		from   api.Ratio
		before int
		e      api.Errno
	}{
		// The first one has less than its share from there on.
		{two, []int{0, 1}, r(3, 2), 0, none},
		{two, []int{0, 1}, r(1000001, 1000000), 0, none},
		{late, []int{0, 1}, r(1, 1), 0, none},
		{example(), []int{0, 1, 2}, r(5, 1), 0, none},
		{example(), []int{1, 2}, r(21, 4), 0, none},
		// The mark of the first one, the value for the second one, and the mark of the second one have no ratio.
		{two, []int{0, 1}, tiny, 0, out},
		{[]api.Cake{steps(0, 2), steps(1, 1)}, []int{0, 1}, tiny, 1, out},
		{[]api.Cake{steps(0, 3), steps(1, 0), flat(2, 1)}, []int{0, 1}, tiny, 2, out},
		{[]api.Cake{steps(0, 3), steps(1, 0), flat(2, 1)}, []int{0, 1, 2}, tiny, 2, out},
		// The third one alone has an error, behind one who does not trim.
		{[]api.Cake{steps(0, 3), steps(0, 1), flat(2, 1)}, []int{0, 1, 2}, tiny, 2, out},
	}
}

// P8.1: the first error of a query, with all else zero; a log that is full is an error only if there is none of the cake.
func TestRoundErrorsOfQueries(t *testing.T) {
	for _, c := range troubles() {
		for room := range 5 {
			want := c.e
			if room < c.before {
				want = api.ErrMany
			}
			d := api.Desk{Cakes: c.l, Log: filled(api.MaxQuery - room)}
			checkError(t, task{d, c.agents, c.from}, want)
		}
		checkError(t, task{api.Desk{Cakes: c.l}, c.agents, c.from}, c.e)
	}
}

// P8.1: a log that has not room for all queries of a round is ErrMany.
func TestRoundFillsLog(t *testing.T) {
	for _, c := range slices.Concat(examples(), edges()) {
		for room := range len(c.asked) {
			d := api.Desk{Cakes: c.l, Log: filled(api.MaxQuery - room)}
			checkError(t, task{d, c.agents, c.from}, api.ErrMany)
		}
	}
}

// ran is cakes, with the turns of their run, and how many queries it has.
type ran struct {
	l     []api.Cake
	turns []api.Turn
	many  int
}

func runs() []ran {
	zero, one := r(0, 1), r(1, 1)
	return []ran{
		// the chapter's example
		{example(), []api.Turn{turn(2, zero, r(2, 3), 1), turn(0, r(2, 3), r(8, 3), 0), turn(1, r(8, 3), r(6, 1), 0)}, 6},
		// Alone an agent has all, and nobody is asked.
		{[]api.Cake{flat(5, 3)}, []api.Turn{turn(0, zero, r(5, 1), 0)}, 0},
		{[]api.Cake{steps(0, 0, 1, 0)}, []api.Turn{turn(0, zero, r(4, 1), 0)}, 0},
		// Agents who agree have pieces in their order.
		{alike(2), []api.Turn{turn(0, zero, one, 0), turn(1, one, r(2, 1), 0)}, 2},
		{alike(3), []api.Turn{turn(0, zero, one, 0), turn(1, one, r(2, 1), 0), turn(2, r(2, 1), r(3, 1), 0)}, 5},
		// All behind trim each piece.
		{falling(2), []api.Turn{turn(1, zero, r(1, 2), 1), turn(0, r(1, 2), r(2, 1), 0)}, 3},
		{falling(3), []api.Turn{turn(2, zero, r(1, 3), 2), turn(1, r(1, 3), one, 1), turn(0, one, r(3, 1), 0)}, 8},
		// A part that nobody wants is left to the last one, or lies in a piece that somebody else had to hold.
		{[]api.Cake{steps(1, 0, 0), steps(1, 0, 0)}, []api.Turn{turn(0, zero, r(1, 2), 0), turn(1, r(1, 2), r(3, 1), 0)}, 2},
		{[]api.Cake{steps(0, 0, 1), steps(0, 0, 1)}, []api.Turn{turn(0, zero, r(5, 2), 0), turn(1, r(5, 2), r(3, 1), 0)}, 2},
		// The piece of the first one ends where half of the other one's does.
		{[]api.Cake{steps(1, 0), steps(1, 1)}, []api.Turn{turn(0, zero, r(1, 2), 0), turn(1, r(1, 2), r(2, 1), 0)}, 2},
		{[]api.Cake{flat(api.MaxLen, api.MaxDens), flat(api.MaxLen, 1)}, []api.Turn{turn(0, zero, r(500, 1), 0), turn(1, r(500, 1), r(1000, 1), 0)}, 2},
	}
}

// P8.2: a run has these turns in order, the pieces that they tell, and so many queries.
func TestRun(t *testing.T) {
	for _, c := range runs() {
		want := asked{turns: c.turns}.division()
		d, turns, log, e := trim.Run(c.l)
		if !sameDivision(d, want) || !slices.Equal(turns, c.turns) || len(log) != c.many || e != api.OK {
			t.Errorf("Run(%v) = %v, %v, %v, %v; want %v, %v, %d queries", c.l, d, turns, log, e, want, c.turns, c.many)
		}
	}
}

// P8.2: the log of the chapter's example is that of its rounds, one behind the other.
func TestRunLog(t *testing.T) {
	var want []api.Query
	for _, c := range examples()[:3] {
		want = append(want, c.asked...)
	}
	if _, _, log, e := trim.Run(example()); !slices.Equal(log, want) || len(log) != 6 || e != api.OK {
		t.Errorf("the log is %v, %v; want %v", log, e, want)
	}
}

// P8.2: with cakes that are not those of a desk, Run has ask.Check's error, and all else is zero.
func TestRunOfBadCakes(t *testing.T) {
	for _, f := range badCakes() {
		if d, turns, log, e := trim.Run(f.d.Cakes); len(d.Pieces) != 0 || len(turns) != 0 || len(log) != 0 || e != f.e {
			t.Errorf("Run(%v) = %v, %v, %v, %v; want %v", f.d.Cakes, d, turns, log, e, f.e)
		}
	}
}
