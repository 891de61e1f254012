package ask_test

import (
	"slices"
	"testing"

	"parcener/api"
	"parcener/ask"
	"parcener/cake"
)

// P4.2, P4.4: an answer, or an error, is that of the agent's cake; asking changes nothing but the log.
func TestAnswersAreOfTheCake(t *testing.T) {
	seen := map[api.Errno]int{}
	for _, s := range sessions() {
		d, e := ask.Open(s.cakes)
		if e != api.OK {
			t.Fatalf("Open(%v) = %v", s.cakes, e)
		}
		for _, q := range s.asked {
			w := ways()[q.Kind-1]
			want, wantErr := w.answer(s.cakes[q.Agent], q.A, q.B)
			next, got, e := w.ask(d, q.Agent, q.A, q.B)
			if got != want || e != wantErr {
				t.Fatalf("%v of %v: %v, %v; want %v, %v", q, s.cakes, got, e, want, wantErr)
			}
			seen[e]++
			after := api.Desk{}
			if e == api.OK {
				q.Answer = got
				after = api.Desk{Cakes: s.cakes, Log: append(slices.Clone(d.Log), q)}
				d = next
			}
			if !same(next, after) {
				t.Fatalf("%v of %v: the desk is %v; want %v", q, s.cakes, next, after)
			}
		}
	}
	for _, e := range []api.Errno{api.OK, api.ErrArg, api.ErrNone, api.ErrRange} {
		if seen[e] < 100 {
			t.Errorf("too few cases of one kind: %v", seen)
		}
	}
}

// P4.4: what was asked replays for the cakes that were asked; what is counted of all agents is all of it.
func TestWhatIsAskedReplays(t *testing.T) {
	for _, s := range sessions() {
		d, e := run(s)
		if e != api.OK {
			t.Fatalf("Open(%v) = %v", s.cakes, e)
		}
		if n, e := ask.Replay(s.cakes, d.Log); n != len(d.Log) || e != api.OK {
			t.Fatalf("Replay(%v, %v) = %d, %v", s.cakes, d.Log, n, e)
		}
		sum := 0
		for agent := range s.cakes {
			sum += ask.Count(d.Log, agent)
		}
		if sum != len(d.Log) || ask.Count(d.Log, -1) != sum {
			t.Fatalf("%d of %d queries are counted", sum, len(d.Log))
		}
	}
}

// P4.3, P4.4: with one answer changed, that query is the first one that is not right; and so with one agent's cake changed the first one that tells it.
func TestReplayFindsChanges(t *testing.T) {
	changes, found := 0, 0
	for _, s := range sessions() {
		d, e := run(s)
		if e != api.OK {
			t.Fatalf("Open(%v) = %v", s.cakes, e)
		}
		for i, q := range d.Log {
			d.Log[i].Answer = api.Ratio{Num: q.Answer.Num + q.Answer.Den, Den: q.Answer.Den}
			if n, e := ask.Replay(s.cakes, d.Log); n != i || e != api.OK {
				t.Fatalf("Replay with another answer to %d = %d, %v", i, n, e)
			}
			d.Log[i] = q
			changes++
		}
		others := slices.Clone(s.cakes)
		others[0] = flat(others[0].Len, 5)
		first := slices.IndexFunc(d.Log, func(q api.Query) bool {
			answer, e := ways()[q.Kind-1].answer(others[q.Agent], q.A, q.B)
			return e != api.OK || answer != q.Answer
		})
		if first < 0 {
			first = len(d.Log)
		} else {
			found++
		}
		if n, e := ask.Replay(others, d.Log); n != first || e != api.OK {
			t.Fatalf("Replay(%v, %v) = %d, %v; want %d", others, d.Log, n, e, first)
		}
	}
	if changes < 1000 || found < 500 {
		t.Errorf("only %d answers and %d cakes were changed", changes, found)
	}
}

// P4.4: an answer does not depend on the cakes of others, nor on the log.
func TestAnswersAreTheAgentsOwn(t *testing.T) {
	for _, s := range sessions() {
		for _, q := range s.asked {
			w := ways()[q.Kind-1]
			_, want, wantErr := w.ask(api.Desk{Cakes: []api.Cake{s.cakes[q.Agent]}}, 0, q.A, q.B)
			for _, d := range []api.Desk{{Cakes: s.cakes}, {Cakes: s.cakes, Log: filled(11)}, {Cakes: s.cakes, Log: s.asked}} {
				if _, got, e := w.ask(d, q.Agent, q.A, q.B); got != want || e != wantErr {
					t.Fatalf("%v of %v: %v, %v; alone %v, %v", q, d, got, e, want, wantErr)
				}
			}
			total, e := ask.Total(api.Desk{Cakes: s.cakes, Log: s.asked}, q.Agent)
			if alone, f := cake.Total(s.cakes[q.Agent]); total != alone || e != f {
				t.Fatalf("Total of %d of %v = %d, %v; alone %d, %v", q.Agent, s.cakes, total, e, alone, f)
			}
		}
	}
}
