package choose_test

import (
	"math"
	"slices"
	"testing"

	"parcener/api"
	"parcener/choose"
)

// ended is a party, where its cutter cuts, what lies before it for the chooser, and whether the chooser takes that.
type ended struct {
	party
	half, at, value api.Ratio
	left            bool
}

func endings() []ended {
	a, b := steps(4, 0, 0, 4), steps(1, 1, 1, 0)
	long := []api.Cake{flat(api.MaxLen, api.MaxDens), flat(api.MaxLen, 1)}
	return []ended{
		// the chapter's examples
		{party{example(), 0}, r(1, 1), r(1, 1), r(3, 1), true},
		{party{example(), 1}, r(2, 1), r(2, 3), r(2, 3), false},
		// Just half is enough to take what lies before the cut.
		{party{[]api.Cake{flat(4, 1), flat(4, 1)}, 0}, r(2, 1), r(2, 1), r(2, 1), true},
		{party{[]api.Cake{flat(4, 1), flat(4, 7)}, 1}, r(14, 1), r(2, 1), r(2, 1), true},
		{party{[]api.Cake{flat(1, 1), flat(1, 1)}, 1}, r(1, 2), r(1, 2), r(1, 2), true},
		{party{[]api.Cake{flat(1, 1), steps(1)}, 0}, r(1, 2), r(1, 2), r(1, 2), true},
		{party{long, 0}, r(6000, 1), r(500, 1), r(500, 1), true},
		{party{[]api.Cake{steps(1, 2, 3), steps(3, 3, 0)}, 1}, r(3, 1), r(1, 1), r(1, 1), false},
		// Little is missing, or there is little more: 11 and 13 of 24.
		{party{[]api.Cake{flat(2, 1), steps(11, 12)}, 0}, r(1, 1), r(1, 1), r(11, 1), false},
		{party{[]api.Cake{flat(2, 1), steps(12, 11)}, 0}, r(1, 1), r(1, 1), r(12, 1), true},
		// The cut is at the first of the points that give half.
		{party{[]api.Cake{a, b}, 0}, r(4, 1), r(1, 1), r(1, 1), false},
		{party{[]api.Cake{a, b}, 1}, r(3, 2), r(3, 2), r(4, 1), true},
		{party{[]api.Cake{a, a}, 0}, r(4, 1), r(1, 1), r(4, 1), true},
		// One agent gives nothing to what lies before the cut, or to all that lies behind it.
		{party{[]api.Cake{steps(5, 0, 0), steps(0, 2, 1)}, 0}, r(5, 2), r(1, 2), r(0, 1), false},
		{party{[]api.Cake{steps(5, 0, 0), steps(0, 2, 1)}, 1}, r(3, 2), r(7, 4), r(5, 1), true},
		{party{[]api.Cake{steps(0, 0, 7), steps(1, 0, 0)}, 0}, r(7, 2), r(5, 2), r(1, 1), true},
		{party{[]api.Cake{steps(0, 0, 7), steps(1, 0, 0)}, 1}, r(1, 2), r(1, 2), r(0, 1), false},
	}
}

// wanted returns the three states that a party must have.
func (c ended) wanted() []api.Choice {
	chooser, start := 1-c.cutter, r(0, 1)
	log := []api.Query{marked(c.cutter, start, c.half, c.at), told(chooser, start, c.at, c.value)}
	return []api.Choice{
		{Desk: api.Desk{Cakes: c.l}, Cutter: c.cutter, At: start},
		{Desk: api.Desk{Cakes: c.l, Log: log[:1]}, Cutter: c.cutter, Step: 1, At: c.at},
		{Desk: api.Desk{Cakes: c.l, Log: log}, Cutter: c.cutter, Step: 2, At: c.at, Left: c.left},
	}
}

// first returns the agent who gets what lies before the cut.
func (c ended) first() int {
	if c.left {
		return 1 - c.cutter
	}
	return c.cutter
}

// P7.1, P7.2: the three states, one after the other, all of them valid; behind the last one there is none.
func TestStates(t *testing.T) {
	for _, c := range endings() {
		s, e := choose.Start(c.l, c.cutter)
		for step, want := range c.wanted() {
			if !same(s, want) || e != api.OK {
				t.Errorf("%v: the state %d is %v, %v; want %v", c.party, step, s, e, want)
			}
			if e := choose.Check(want); e != api.OK {
				t.Errorf("Check(%v) = %v", want, e)
			}
			s, e = choose.Next(want)
		}
		if !same(s, api.Choice{}) || e != api.ErrState {
			t.Errorf("%v: Next of the last state = %v, %v", c.party, s, e)
		}
	}
}

// P7.2: the division of the last state, and no other one.
func TestDivision(t *testing.T) {
	for _, c := range endings() {
		states := c.wanted()
		for _, s := range states[:2] {
			if d, e := choose.Division(s); len(d.Pieces) != 0 || e != api.ErrState {
				t.Errorf("Division(%v) = %v, %v", s, d, e)
			}
		}
		want := divided(c.l[0].Len, c.at, c.first())
		if d, e := choose.Division(states[2]); !sameDivision(d, want) || e != api.OK {
			t.Errorf("Division(%v) = %v, %v; want %v", states[2], d, e, want)
		}
	}
}

// P7.3: Run returns the division and the log of the last state.
func TestRun(t *testing.T) {
	for _, c := range endings() {
		want := divided(c.l[0].Len, c.at, c.first())
		log := c.wanted()[2].Desk.Log
		if d, l, e := choose.Run(c.l, c.cutter); !sameDivision(d, want) || !slices.Equal(l, log) || e != api.OK {
			t.Errorf("Run(%v) = %v, %v, %v; want %v, %v", c.party, d, l, e, want, log)
		}
	}
}

// P7.1, P7.3: Start and Run have the error of the desk, and then ErrArg for what is not two cakes, or no cutter of them.
func TestFlaws(t *testing.T) {
	for _, f := range flaws() {
		if s, e := choose.Start(f.l, f.cutter); !same(s, api.Choice{}) || e != f.e {
			t.Errorf("Start(%v) = %v, %v; want %v", f.party, s, e, f.e)
		}
		if d, log, e := choose.Run(f.l, f.cutter); len(d.Pieces) != 0 || len(log) != 0 || e != f.e {
			t.Errorf("Run(%v) = %v, %v, %v; want %v", f.party, d, log, e, f.e)
		}
	}
}

// falseStates returns states that are like a valid one, but for one thing.
func falseStates(s api.Choice) []api.Choice {
	var l []api.Choice
	put := func(change func(s *api.Choice)) {
		other := s
		other.Desk.Log = slices.Clone(s.Desk.Log)
		change(&other)
		l = append(l, other)
	}
	for _, step := range []int{0, 1, 2, 3, -1, math.MinInt, math.MaxInt} {
		if step != s.Step {
			put(func(s *api.Choice) { s.Step = step })
		}
	}
	// The last ones are the same number, but not its ratio, and no ratio at all.
	for _, at := range []api.Ratio{r(s.At.Num+1, s.At.Den), r(-s.At.Num-1, s.At.Den), r(s.At.Num+1, 2), r(2*s.At.Num, 2*s.At.Den), r(-s.At.Num, -s.At.Den), {}} {
		put(func(s *api.Choice) { s.At = at })
	}
	put(func(s *api.Choice) { s.Left = !s.Left })
	more := []api.Query{{}, told(0, r(0, 1), r(1, 1), r(1, 1)), marked(s.Cutter, r(0, 1), r(0, 1), r(0, 1))}
	for _, q := range append(more, s.Desk.Log...) {
		put(func(s *api.Choice) { s.Desk.Log = append(s.Desk.Log, q) })
		put(func(s *api.Choice) { s.Desk.Log = slices.Insert(s.Desk.Log, 0, q) })
	}
	put(func(s *api.Choice) { s.Desk.Log = make([]api.Query, api.MaxQuery) })
	for i, q := range s.Desk.Log {
		put(func(s *api.Choice) { s.Desk.Log = slices.Delete(s.Desk.Log, i, i+1) })
		for _, other := range otherQueries(q) {
			put(func(s *api.Choice) { s.Desk.Log[i] = other })
		}
	}
	if len(s.Desk.Log) == 2 {
		put(func(s *api.Choice) { slices.Reverse(s.Desk.Log) })
		put(func(s *api.Choice) { s.Desk.Log = nil })
	}
	return l
}

// otherQueries returns queries that are like q, but for one thing.
func otherQueries(q api.Query) []api.Query {
	var l []api.Query
	put := func(change func(q *api.Query)) {
		other := q
		change(&other)
		l = append(l, other)
	}
	for _, agent := range []int{1 - q.Agent, -1, 2} {
		put(func(q *api.Query) { q.Agent = agent })
	}
	for _, kind := range []uint8{0, 3 - q.Kind, 3, 255} {
		put(func(q *api.Query) { q.Kind = kind })
	}
	for _, a := range []func(q *api.Query) *api.Ratio{
		func(q *api.Query) *api.Ratio { return &q.A },
		func(q *api.Query) *api.Ratio { return &q.B },
		func(q *api.Query) *api.Ratio { return &q.Answer },
	} {
		put(func(q *api.Query) { a(q).Num++ })
		put(func(q *api.Query) { a(q).Den++ })
		put(func(q *api.Query) { *a(q) = r(2*a(q).Num, 2*a(q).Den) })
		put(func(q *api.Query) { *a(q) = api.Ratio{} })
	}
	return l
}

// P7.1, P7.2: what differs in one thing from a valid state is not valid, also if its log is right; all calls tell it.
func TestFalseStates(t *testing.T) {
	for _, c := range endings() {
		for _, s := range c.wanted() {
			for _, other := range falseStates(s) {
				checkInvalid(t, other, api.ErrBad)
			}
		}
	}
}

// checkInvalid reports calls with a state that do not have an error.
func checkInvalid(t *testing.T, s api.Choice, want api.Errno) {
	t.Helper()
	if e := choose.Check(s); e != want {
		t.Errorf("Check(%v) = %v; want %v", s, e, want)
	}
	if next, e := choose.Next(s); !same(next, api.Choice{}) || e != want {
		t.Errorf("Next(%v) = %v, %v; want %v", s, next, e, want)
	}
	if d, e := choose.Division(s); len(d.Pieces) != 0 || e != want {
		t.Errorf("Division(%v) = %v, %v; want %v", s, d, e, want)
	}
}

// P7.1: a state with the other cutter, or with exchanged cakes, is another one: only the first one is valid, for nobody was asked.
func TestOtherParties(t *testing.T) {
	for _, c := range endings() {
		for step, s := range c.wanted() {
			want := api.ErrBad
			if step == 0 {
				want = api.OK
			}
			other := s
			other.Cutter = 1 - s.Cutter
			if e := choose.Check(other); e != want {
				t.Errorf("Check(%v) = %v; want %v", other, e, want)
			}
			// The answers of other cakes are others, unless both agents agree.
			other = s
			other.Desk.Cakes = []api.Cake{s.Desk.Cakes[1], s.Desk.Cakes[0]}
			if slices.Equal(s.Desk.Cakes[0].Dens, s.Desk.Cakes[1].Dens) {
				want = api.OK
			}
			if e := choose.Check(other); e != want {
				t.Errorf("Check(%v) = %v; want %v", other, e, want)
			}
		}
	}
}

// P7.1, P7.2: the error of the desk comes first, then ErrArg for the number of cakes and the cutter, and ErrBad for all else.
func TestCheckErrors(t *testing.T) {
	for _, f := range flaws() {
		for _, s := range []api.Choice{{}, {At: r(0, 1)}, {Step: 1, At: r(1, 1)}, {Step: 2, Left: true}, {Step: -5}, {Step: math.MaxInt}} {
			s.Desk.Cakes, s.Cutter = f.l, f.cutter
			checkInvalid(t, s, f.e)
			s.Desk.Log = []api.Query{marked(0, r(0, 1), r(1, 1), r(1, 1)), {}}
			checkInvalid(t, s, f.e)
			s.Desk.Log = make([]api.Query, api.MaxQuery+1)
			checkInvalid(t, s, api.ErrMany)
		}
	}
	for _, c := range endings() {
		for _, s := range c.wanted() {
			s.Desk.Log = make([]api.Query, api.MaxQuery+1)
			checkInvalid(t, s, api.ErrMany)
			s.Step, s.Cutter = 7, 2
			checkInvalid(t, s, api.ErrMany)
			s.Desk.Log = nil
			checkInvalid(t, s, api.ErrArg)
			s.Cutter = 1
			checkInvalid(t, s, api.ErrBad)
		}
	}
}
