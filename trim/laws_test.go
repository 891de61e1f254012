package trim_test

import (
	"math/big"
	"slices"
	"testing"

	"parcener/api"
	"parcener/ask"
	"parcener/proof"
	"parcener/trim"
)

// sampleRuns returns random cakes, and those whose runs have the most and the fewest queries.
func sampleRuns() [][]api.Cake {
	all := parties()
	for n := range api.MaxAgents {
		all = append(all, falling(n+1), alike(n+1))
	}
	for _, c := range runs() {
		all = append(all, c.l)
	}
	return all
}

// P8.1: a round is that of the definitions, also where a query has an error.
func TestRoundsAreAsDefined(t *testing.T) {
	seen := map[api.Errno]int{}
	for _, c := range tasks() {
		want := official().round(c.d.Cakes, c.agents, c.from)
		next, turn, e := trim.Round(c.d, c.agents, c.from)
		seen[e]++
		if want.e != api.OK {
			checkError(t, c, want.e)
			continue
		}
		after := api.Desk{Cakes: c.d.Cakes, Log: slices.Concat(c.d.Log, want.log)}
		if !sameDesk(next, after) || turn != want.turns[0] || e != api.OK {
			t.Fatalf("Round(%v) = %v, %v, %v; want %v", c, next.Log, turn, e, want)
		}
	}
	if seen[api.OK] < 800 || seen[api.ErrNone] < 100 || seen[api.ErrRange] < 50 {
		t.Errorf("too few cases of one kind: %v", seen)
	}
}

// P8.1: turns and queries are exact, and the piece is such that none of the round gives more than its share to it, but who gets it just that.
func TestRoundsAreExact(t *testing.T) {
	trims := map[int]int{}
	for _, c := range tasks() {
		next, turn, e := trim.Round(c.d, c.agents, c.from)
		if e != api.OK || len(c.agents) == 1 {
			continue
		}
		trims[turn.Trims]++
		want := exact().round(c.d.Cakes, c.agents, c.from)
		if want.e != api.OK || turn != want.turns[0] || !slices.Equal(next.Log[len(c.d.Log):], want.log) {
			t.Fatalf("Round(%v) = %v, %v; want %v", c, next.Log, turn, want)
		}
		for _, agent := range c.agents {
			worth := between(c.d.Cakes[agent], rat(turn.From), rat(turn.To))
			if order := worth.Cmp(shareOf(c.d.Cakes, agent)); order > 0 || agent == turn.Agent && order < 0 {
				t.Fatalf("Round(%v): the agent %d gives %v to %v", c, agent, worth, turn)
			}
		}
	}
	if trims[0] < 300 || trims[1] < 100 || trims[2] < 30 {
		t.Errorf("too few cases of one kind: %v", trims)
	}
}

// P8.2: a run has the turns and the log of the definitions, in numbers of any size, and the division of its turns.
func TestRunsAreExact(t *testing.T) {
	for _, l := range sampleRuns() {
		want := exact().run(l)
		d, turns, log, e := trim.Run(l)
		if want.e != api.OK || e != api.OK || !slices.Equal(turns, want.turns) || !slices.Equal(log, want.log) || !sameDivision(d, want.division()) {
			t.Fatalf("Run(%v) = %v, %v, %v, %v; want %v", l, d, turns, log, e, want)
		}
	}
}

// P8.2: a run is its rounds, one after the other, each of all who have nothing yet.
func TestRunsAreRounds(t *testing.T) {
	for _, l := range sampleRuns() {
		_, turns, log, _ := trim.Run(l)
		d, from := api.Desk{Cakes: l}, r(0, 1)
		var left []int
		for agent := range l {
			left = append(left, agent)
		}
		for _, want := range turns {
			next, turn, e := trim.Round(d, left, from)
			if turn != want || e != api.OK {
				t.Fatalf("%v: Round(%v, %v) = %v, %v; want %v", l, left, from, turn, e, want)
			}
			d, from = next, turn.To
			left = slices.DeleteFunc(left, func(agent int) bool { return agent == turn.Agent })
		}
		if len(left) != 0 || !slices.Equal(d.Log, log) {
			t.Fatalf("%v: the log is %v; want %v; %v have nothing", l, d.Log, log, left)
		}
	}
}

// P8.3: the certificate of the division says that it is whole, with the share of each agent, and in one span each.
func TestCertificate(t *testing.T) {
	const claims = api.ClaimWhole + api.ClaimShare + api.ClaimOne
	for _, l := range sampleRuns() {
		d, _, _, _ := trim.Run(l)
		made, e := proof.Make(l, d)
		if made.Claims&claims != claims || e != api.OK {
			t.Fatalf("%v: the certificate of %v is %v, %v", l, d, made, e)
		}
		if ok, e := proof.Accept(l, d, made); !ok || e != api.OK {
			t.Fatalf("%v: Accept(%v, %v) = %v, %v", l, d, made, ok, e)
		}
	}
}

// P8.3: there is a turn for each agent, one behind the other; all but the last one give just its share to who gets the piece.
func TestTurns(t *testing.T) {
	more := 0
	for _, l := range sampleRuns() {
		_, turns, _, _ := trim.Run(l)
		from := r(0, 1)
		have := map[int]bool{}
		for i, c := range turns {
			if c.From != from || c.Agent < 0 || c.Agent >= len(l) || have[c.Agent] {
				t.Fatalf("%v: the turn %d of %v", l, i, turns)
			}
			from, have[c.Agent] = c.To, true
			worth := between(l[c.Agent], rat(c.From), rat(c.To))
			order := worth.Cmp(shareOf(l, c.Agent))
			if order < 0 || order > 0 && i < len(l)-1 {
				t.Fatalf("%v: the agent %d has %v in the turn %d of %v", l, c.Agent, worth, i, turns)
			}
			more += order
		}
		if len(turns) != len(l) || rat(from).Cmp(big.NewRat(int64(l[0].Len), 1)) != 0 {
			t.Fatalf("%v: the turns are %v", l, turns)
		}
	}
	if more < 300 {
		t.Errorf("only %d of the last ones have more than their share", more)
	}
}

// P8.3: all queries are right, and there are at most as many as the bound, none with one agent.
func TestQueries(t *testing.T) {
	for _, l := range sampleRuns() {
		_, _, log, e := trim.Run(l)
		bound, f := trim.Bound(len(l))
		if e != api.OK || f != api.OK || len(log) > bound || len(l) == 1 && len(log) != 0 {
			t.Fatalf("Run(%v): %d queries, %v; the bound is %d, %v", l, len(log), e, bound, f)
		}
		if n, e := ask.Replay(l, log); n != len(log) || e != api.OK {
			t.Fatalf("Replay of %v for %v = %d, %v", log, l, n, e)
		}
	}
}

// P8.3: no smaller bound would do; where nobody trims, each of those in a round but the last one is asked once.
func TestMostAndFewestQueries(t *testing.T) {
	fewest := 0
	for n := 1; n <= api.MaxAgents; n++ {
		bound, _ := trim.Bound(n)
		if _, _, log, e := trim.Run(falling(n)); len(log) != bound || e != api.OK {
			t.Errorf("%d agents who all trim: %d queries, %v; want %d", n, len(log), e, bound)
		}
		if n > 1 {
			fewest += n
		}
		if _, _, log, e := trim.Run(alike(n)); len(log) != fewest || e != api.OK {
			t.Errorf("%d agents who agree: %d queries, %v; want %d", n, len(log), e, fewest)
		}
	}
}
