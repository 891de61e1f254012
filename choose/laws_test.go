package choose_test

import (
	"math/big"
	"slices"
	"testing"

	"parcener/api"
	"parcener/ask"
	"parcener/choose"
	"parcener/proof"
)

// P7.1, P7.2: all states are those of the definitions, in numbers of any size.
func TestStatesAreExact(t *testing.T) {
	told := map[string]int{}
	for _, p := range parties() {
		want := p.ending()
		c := ended{p, ratioOf(halfOf(p.l[p.cutter])), ratioOf(want.at), ratioOf(want.value), want.left}
		for step, s := range p.states(t) {
			if !same(s, c.wanted()[step]) {
				t.Fatalf("%v: the state %d is %v; want %v", p, step, s, c.wanted()[step])
			}
		}
		d, e := choose.Division(c.wanted()[2])
		if !sameDivision(d, divided(p.l[0].Len, c.at, c.first())) || e != api.OK {
			t.Fatalf("%v: Division = %v, %v", p, d, e)
		}
		switch want.value.Cmp(halfOf(p.l[1-p.cutter])) {
		case -1:
			told["less"]++
		case 0:
			told["half"]++
		case 1:
			told["more"]++
		}
		if !want.at.IsInt() {
			told["inside"]++
		}
	}
	if told["less"] < 300 || told["half"] < 300 || told["more"] < 300 || told["inside"] < 300 {
		t.Errorf("too few cases of one kind: %v", told)
	}
}

// P7.1: with the states of random cakes, what differs in one thing is not valid.
func TestFalseStatesOfRandomCakes(t *testing.T) {
	for _, p := range parties()[:100] {
		for _, s := range p.states(t) {
			for _, other := range falseStates(s) {
				if e := choose.Check(other); e != api.ErrBad {
					t.Fatalf("Check(%v) = %v", other, e)
				}
			}
		}
	}
}

// P7.3: Run returns what the three states give.
func TestRunIsLast(t *testing.T) {
	for _, p := range parties() {
		last := p.states(t)[2]
		want, _ := choose.Division(last)
		if d, log, e := choose.Run(p.l, p.cutter); !sameDivision(d, want) || !slices.Equal(log, last.Desk.Log) || e != api.OK {
			t.Fatalf("Run(%v) = %v, %v, %v; want %v, %v", p, d, log, e, want, last.Desk.Log)
		}
	}
}

// P7.4: there are just two queries, one to each agent, and all are right.
func TestTwoQueries(t *testing.T) {
	for _, p := range parties() {
		_, log, e := choose.Run(p.l, p.cutter)
		if e != api.OK || len(log) != 2 || ask.Count(log, 0) != 1 || ask.Count(log, 1) != 1 {
			t.Fatalf("Run(%v): %v, %v", p, log, e)
		}
		if n, e := ask.Replay(p.l, log); n != 2 || e != api.OK {
			t.Fatalf("Replay of %v for %v = %d, %v", log, p, n, e)
		}
	}
}

// P7.4: the certificate of the division says that it is whole, with the share of each agent, without envy, and in one span each.
func TestCertificate(t *testing.T) {
	const claims = api.ClaimWhole + api.ClaimShare + api.ClaimEnvy + api.ClaimOne
	for _, p := range parties() {
		d, _, _ := choose.Run(p.l, p.cutter)
		made, e := proof.Make(p.l, d)
		if made.Claims&claims != claims || e != api.OK {
			t.Fatalf("%v: the certificate of %v is %v, %v", p, d, made, e)
		}
		if ok, e := proof.Accept(p.l, d, made); !ok || e != api.OK {
			t.Fatalf("%v: Accept(%v, %v) = %v, %v", p, d, made, ok, e)
		}
	}
}

// P7.4: both agents have at least half of their totals, the cutter just half.
func TestHalves(t *testing.T) {
	more := 0
	for _, p := range parties() {
		d, _, _ := choose.Run(p.l, p.cutter)
		for agent, c := range p.l {
			s := d.Pieces[agent][0]
			got := new(big.Rat).Sub(valueTo(c, rat(s.To)), valueTo(c, rat(s.From)))
			order := got.Cmp(halfOf(c))
			if order < 0 || agent == p.cutter && order > 0 {
				t.Fatalf("%v: the agent %d has %v", p, agent, got)
			}
			more += order
		}
	}
	if more < 300 {
		t.Errorf("only %d choosers had more than half", more)
	}
}

// P7.4: exchanging agents and cutter exchanges the pieces.
func TestExchange(t *testing.T) {
	for _, p := range parties() {
		d, log, _ := choose.Run(p.l, p.cutter)
		other, otherLog, e := choose.Run([]api.Cake{p.l[1], p.l[0]}, 1-p.cutter)
		slices.Reverse(other.Pieces)
		for i := range otherLog {
			otherLog[i].Agent = 1 - otherLog[i].Agent
		}
		if !sameDivision(d, other) || !slices.Equal(log, otherLog) || e != api.OK {
			t.Fatalf("%v: %v, %v; exchanged %v, %v, %v", p, d, log, other, otherLog, e)
		}
	}
}
