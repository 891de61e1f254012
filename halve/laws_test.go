package halve_test

import (
	"slices"
	"testing"

	"parcener/api"
	"parcener/ask"
	"parcener/halve"
	"parcener/proof"
)

// sampleRuns returns random cakes, and those of the runs that are told.
func sampleRuns() [][]api.Cake {
	l := parties()
	for _, c := range runs() {
		l = append(l, c.l)
	}
	return l
}

// P9.1: a split is that of the definitions, also where a query has an error.
func TestSplitsAreAsDefined(t *testing.T) {
	seen := map[api.Errno]int{}
	for _, c := range tasks() {
		want := official().split(c.d.Cakes, c.agents, c.s)
		next, at, left, right, e := halve.Split(c.d, c.agents, c.s.From, c.s.To)
		seen[e]++
		if want.e != api.OK {
			checkError(t, c, want.e)
			continue
		}
		after := api.Desk{Cakes: c.d.Cakes, Log: slices.Concat(c.d.Log, want.asked)}
		if !sameDesk(next, after) || !sameCut(cut(at, left, right), want) || e != api.OK {
			t.Fatalf("Split(%v) = %v, %v, %v, %v, %v; want %v", c, next.Log, at, left, right, e, want)
		}
	}
	if seen[api.OK] < 1000 || seen[api.ErrRange] < 100 {
		t.Errorf("too few cases of one kind: %v", seen)
	}
}

// P9.1: cuts and queries are exact; nobody is asked for the value of the whole cake, which is known.
func TestSplitsAreExact(t *testing.T) {
	whole, parts := 0, 0
	for _, c := range tasks() {
		next, at, left, right, e := halve.Split(c.d, c.agents, c.s.From, c.s.To)
		if e != api.OK {
			continue
		}
		want := exact().split(c.d.Cakes, c.agents, c.s)
		asked := next.Log[len(c.d.Log):]
		if want.e != api.OK || !sameCut(cut(at, left, right), want) || !slices.Equal(asked, want.asked) {
			t.Fatalf("Split(%v) = %v, %v, %v, %v; want %v", c, asked, at, left, right, want)
		}
		switch len(asked) {
		case len(c.agents):
			whole++
		case 2 * len(c.agents):
			parts++
		}
	}
	if whole < 200 || parts < 500 {
		t.Errorf("too few cases of one kind: %d of the whole cake, %d of parts", whole, parts)
	}
}

// P9.3: each agent on the left gives at least m / k of the value to what lies on the left, each one on the right at least the rest to what lies on the right.
func TestBothSidesHaveTheirParts(t *testing.T) {
	empty, odd, same := 0, 0, 0
	for _, c := range tasks() {
		next, at, left, right, e := halve.Split(c.d, c.agents, c.s.From, c.s.To)
		if e != api.OK {
			continue
		}
		from, middle, to := rat(c.s.From), rat(at), rat(c.s.To)
		m, k := len(c.agents)/2, len(c.agents)
		all := slices.Concat(left, right)
		slices.Sort(all)
		if len(left) != m || !slices.Equal(all, c.agents) || middle.Cmp(from) < 0 || middle.Cmp(to) >= 0 {
			t.Fatalf("Split(%v) = %v, %v, %v", c, at, left, right)
		}
		for _, agent := range c.agents {
			cake, part, a, b := c.d.Cakes[agent], m, from, middle
			if slices.Contains(right, agent) {
				part, a, b = k-m, middle, to
			}
			if got, want := between(cake, a, b), fraction(between(cake, from, to), part, k); got.Cmp(want) < 0 {
				t.Fatalf("Split(%v) = %v, %v, %v: the agent %d has %v, and should have %v", c, at, left, right, agent, got, want)
			}
		}
		if middle.Cmp(from) == 0 {
			empty++
		}
		odd += k % 2
		for _, q := range next.Log[len(c.d.Log):] {
			if q.Kind == api.AskMark && q.Answer == at && slices.Contains(right, q.Agent) {
				same++
			}
		}
	}
	if empty < 50 || odd < 200 || same < 200 {
		t.Errorf("too few cases of one kind: %d cuts at the beginning, %d odd numbers of agents, %d agents on the right who marked the cut", empty, odd, same)
	}
}

// P9.2: a run has the division and the log of the definitions, in numbers of any size.
func TestRunsAreExact(t *testing.T) {
	for _, l := range sampleRuns() {
		want, asked, wantErr := exact().run(l)
		d, log, e := halve.Run(l)
		if wantErr != api.OK || e != api.OK || !sameDivision(d, want) || !slices.Equal(log, asked) {
			t.Fatalf("Run(%v) = %v, %v, %v; want %v, %v, %v", l, d, log, e, want, asked, wantErr)
		}
	}
}

// P9.2: a run is its splits, one after the other, each on the left of a cut before those on the right of it.
func TestRunsAreSplits(t *testing.T) {
	for _, l := range sampleRuns() {
		want, log, _ := halve.Run(l)
		d, got := api.Desk{Cakes: l}, api.Division{Pieces: make([][]api.Span, len(l))}
		waiting := []part{whole(l)}
		for len(waiting) > 0 {
			p := waiting[0]
			waiting = waiting[1:]
			if len(p.agents) == 1 {
				got.Pieces[p.agents[0]] = []api.Span{p.s}
				continue
			}
			next, at, left, right, e := halve.Split(d, p.agents, p.s.From, p.s.To)
			if e != api.OK {
				t.Fatalf("%v: Split(%v) = %v", l, p, e)
			}
			d, waiting = next, append(p.parts(cut(at, left, right)), waiting...)
		}
		if !sameDivision(got, want) || !slices.Equal(d.Log, log) {
			t.Fatalf("%v: the splits give %v, %v; the run %v, %v", l, got, d.Log, want, log)
		}
	}
}

// P9.3: the certificate of the division says that it is whole, with the share of each agent, and in one span each.
func TestCertificate(t *testing.T) {
	const claims = api.ClaimWhole + api.ClaimShare + api.ClaimOne
	for _, l := range sampleRuns() {
		d, _, _ := halve.Run(l)
		made, e := proof.Make(l, d)
		if made.Claims&claims != claims || e != api.OK {
			t.Fatalf("%v: the certificate of %v is %v, %v", l, d, made, e)
		}
		if ok, e := proof.Accept(l, d, made); !ok || e != api.OK {
			t.Fatalf("%v: Accept(%v, %v) = %v, %v", l, d, made, ok, e)
		}
	}
}

// P9.3: all queries are right, and there are at most as many as the bound: for a number of agents always as many, and with 1, 2 or 4 of them as many as the bound.
func TestQueries(t *testing.T) {
	many := []int{0, 2, 7, 12, 19, 26}
	for _, l := range sampleRuns() {
		_, log, e := halve.Run(l)
		bound, f := halve.Bound(len(l))
		if e != api.OK || f != api.OK || len(log) > bound || len(log) != many[len(l)-1] {
			t.Fatalf("Run(%v): %d queries, %v; the bound is %d, %v", l, len(log), e, bound, f)
		}
		if n, e := ask.Replay(l, log); n != len(log) || e != api.OK {
			t.Fatalf("Replay of %v for %v = %d, %v", log, l, n, e)
		}
	}
}
