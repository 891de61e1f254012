package triple_test

import (
	"math/big"
	"slices"
	"testing"

	"parcener/api"
	"parcener/ask"
	"parcener/proof"
	"parcener/triple"
)

// sampleRuns returns random cakes, and those of the samples.
func sampleRuns() [][]api.Cake {
	all := parties()
	for _, c := range samples() {
		all = append(all, c.l)
	}
	return append(all, slices.Repeat([]api.Cake{flat(api.MaxLen, api.MaxDens)}, 3))
}

// P10.1: the first part is that of the definitions, in numbers of any size, behind any log.
func TestFirstIsExact(t *testing.T) {
	trims := map[int]int{}
	empty := 0
	for i, l := range sampleRuns() {
		want := wanted(l)
		d := api.Desk{Cakes: l, Log: filled(i % 4)}
		after := api.Desk{Cakes: l, Log: slices.Concat(d.Log, want.log[:want.many])}
		next, s, e := triple.First(d)
		if !sameDesk(next, after) || s != want.s || e != api.OK {
			t.Fatalf("First(%v) = %v, %v, %v; want %v, %v", l, next.Log, s, e, want.s, want.log[:want.many])
		}
		trims[s.Piece]++
		if s.Piece >= 0 && s.Pieces[s.Piece].From == s.Pieces[s.Piece].To {
			empty++
		}
	}
	if trims[-1] < 200 || trims[0] < 200 || trims[1] < 200 || trims[2] < 200 || empty < 30 {
		t.Errorf("too few cases of one kind: %v, and %d empty pieces", trims, empty)
	}
}

// P10.1: the first part has an error exactly if its queries are more than there is room for.
func TestRoomForFirst(t *testing.T) {
	for i, l := range parties() {
		want := wanted(l)
		room := i % 10
		d := api.Desk{Cakes: l, Log: filled(api.MaxQuery - room)}
		if room < want.many {
			checkError(t, d, api.ErrMany)
		} else if next, s, e := triple.First(d); len(next.Log) != api.MaxQuery-room+want.many || s != want.s || e != api.OK {
			t.Fatalf("First(%v) with room for %d queries = %v, %v", l, room, s, e)
		}
	}
}

// P10.2: a run has the division, the result of its first part and the log of the definitions, in numbers of any size.
func TestRunsAreExact(t *testing.T) {
	takers := map[int]int{}
	taken := map[[3]int]int{}
	for _, l := range sampleRuns() {
		want := wanted(l)
		d, s, log, e := triple.Run(l)
		if !sameDivision(d, want.d) || s != want.s || !slices.Equal(log, want.log) || e != api.OK {
			t.Fatalf("Run(%v) = %v, %v, %v, %v; want %v", l, d, s, log, e, want)
		}
		if s.Piece >= 0 {
			takers[slices.Index(s.Of[:], s.Piece)]++
			taken[want.crumbs]++
		}
	}
	if takers[0] != 0 || takers[1] < 500 || takers[2] < 200 {
		t.Errorf("too few cases of one kind: the agents have the trimmed piece as often as %v", takers)
	}
	for _, order := range [][3]int{{0, 1, 2}, {0, 2, 1}, {1, 0, 2}, {1, 2, 0}, {2, 0, 1}, {2, 1, 0}} {
		if taken[order] < 10 {
			t.Errorf("too few cases of one kind: the crumbs are taken as %v", taken)
		}
	}
}

// P10.2: the result of a run, and the beginning of its log, are those of the first part for an empty log.
func TestRunBeginsWithFirst(t *testing.T) {
	for _, l := range sampleRuns() {
		next, want, _ := triple.First(api.Desk{Cakes: l})
		_, s, log, e := triple.Run(l)
		if s != want || len(log) < len(next.Log) || !slices.Equal(log[:len(next.Log)], next.Log) || e != api.OK {
			t.Fatalf("Run(%v) = %v, %v, %v; the first part is %v, %v", l, s, log, e, want, next.Log)
		}
	}
}

// P10.2: each agent has its piece of the first part, and if one was trimmed, a part of what is off, or nothing of it.
func TestPiecesAndCrumbs(t *testing.T) {
	for _, l := range sampleRuns() {
		d, s, _, _ := triple.Run(l)
		for agent, spans := range d.Pieces {
			had := s.Pieces[s.Of[agent]]
			length := new(big.Rat)
			for _, x := range spans {
				length.Add(length, new(big.Rat).Sub(rat(x.To), rat(x.From)))
			}
			length.Sub(length, new(big.Rat).Sub(rat(had.To), rat(had.From)))
			if length.Sign() < 0 || s.Piece < 0 && length.Sign() > 0 {
				t.Fatalf("Run(%v) = %v, %v: the agent %d had %v", l, d, s, agent, had)
			}
		}
	}
}

// P10.3: the certificate of the division says that it is whole, without envy, and so with the share of each agent.
func TestCertificate(t *testing.T) {
	const claims = api.ClaimWhole + api.ClaimEnvy + api.ClaimShare
	for _, l := range sampleRuns() {
		d, _, _, _ := triple.Run(l)
		made, e := proof.Make(l, d)
		if made.Claims&claims != claims || e != api.OK {
			t.Fatalf("%v: the certificate of %v is %v, %v", l, d, made, e)
		}
		if ok, e := proof.Accept(l, d, made); !ok || e != api.OK {
			t.Fatalf("%v: Accept(%v, %v) = %v, %v", l, d, made, ok, e)
		}
	}
}

// P10.3: all queries are right, and there are at most as many as the bound: 7 if nothing is trimmed, and otherwise as many as the bound, 8 of them in the first part.
func TestQueries(t *testing.T) {
	for _, l := range sampleRuns() {
		next, s, _ := triple.First(api.Desk{Cakes: l})
		_, _, log, e := triple.Run(l)
		first, all := 7, 7
		if s.Piece >= 0 {
			first, all = 8, triple.Bound()
		}
		if len(next.Log) != first || len(log) != all || e != api.OK {
			t.Fatalf("%v: %d queries, and %d in the first part, %v, with the result %v", l, len(log), len(next.Log), e, s)
		}
		if n, e := ask.Replay(l, log); n != len(log) || e != api.OK {
			t.Fatalf("Replay of %v for %v = %d, %v", log, l, n, e)
		}
	}
}

// P10.3: after the first part the agent 1 has two best pieces, one of which it gets; the agent 0 gets a third of its total, and never the trimmed piece; the agent 2 gets what is best for it.
func TestAfterFirstPart(t *testing.T) {
	for _, l := range sampleRuns() {
		_, s, _ := triple.First(api.Desk{Cakes: l})
		var worth [3][]*big.Rat
		for agent, c := range l {
			for _, piece := range s.Pieces {
				worth[agent] = append(worth[agent], worthOf(c, piece))
			}
		}
		order := ranked(worth[1])
		first, second := worth[1][order[0]], worth[1][order[1]]
		if first.Cmp(second) != 0 || worth[1][s.Of[1]].Cmp(first) != 0 {
			t.Fatalf("First(%v) = %v: the pieces are worth %v for the agent 1", l, s, worth[1])
		}
		if worth[0][s.Of[0]].Cmp(fraction(totalOf(l[0]), 1, 3)) != 0 || s.Of[0] == s.Piece {
			t.Fatalf("First(%v) = %v: the pieces are worth %v for the agent 0", l, s, worth[0])
		}
		if ranked(worth[2])[0] != s.Of[2] {
			t.Fatalf("First(%v) = %v: the pieces are worth %v for the agent 2", l, s, worth[2])
		}
	}
}

// P10.3: nobody has more than two spans, and some have as many.
func TestFewSpans(t *testing.T) {
	two := 0
	for _, l := range sampleRuns() {
		d, _, _, _ := triple.Run(l)
		for agent, spans := range d.Pieces {
			if len(spans) > 2 {
				t.Fatalf("Run(%v): the agent %d has %v", l, agent, spans)
			}
			two += len(spans) / 2
		}
	}
	if two < 500 {
		t.Errorf("only %d pieces have two spans", two)
	}
}
