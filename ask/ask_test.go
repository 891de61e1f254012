package ask_test

import (
	"slices"
	"testing"

	"parcener/api"
	"parcener/ask"
)

// The chapter's examples.
func TestExample(t *testing.T) {
	d, e := ask.Open(example())
	if e != api.OK {
		t.Fatal(e)
	}
	for agent, want := range []int{2, 4} {
		if got, e := ask.Total(d, agent); got != want || e != api.OK {
			t.Errorf("Total(%d) = %d, %v; want %d", agent, got, e, want)
		}
	}
	for agent, want := range []api.Ratio{r(1, 1), r(1, 3)} {
		next, p, e := ask.Mark(d, agent, r(0, 1), r(1, 1))
		if p != want || e != api.OK {
			t.Errorf("agent %d: Mark(0, 1) = %v, %v; want %v", agent, p, e, want)
		}
		d = next
	}
	want := []api.Query{marked(0, r(0, 1), r(1, 1), r(1, 1)), marked(1, r(0, 1), r(1, 1), r(1, 3))}
	if !slices.Equal(d.Log, want) || ask.Count(d.Log, 0) != 1 || ask.Count(d.Log, 1) != 1 {
		t.Errorf("the log is %v; want %v", d.Log, want)
	}
	if n, e := ask.Replay(d.Cakes, d.Log); n != 2 || e != api.OK {
		t.Errorf("Replay = %d, %v; want 2", n, e)
	}
	slices.Reverse(d.Cakes)
	if n, e := ask.Replay(d.Cakes, d.Log); n != 0 || e != api.OK {
		t.Errorf("Replay with exchanged cakes = %d, %v; want 0", n, e)
	}
}

// P4.1: Check tells the errors of a desk in their order, and accepts all valid desks, whatever their queries are.
func TestCheck(t *testing.T) {
	for _, l := range [][]api.Cake{example(), six(), {steep()}, {flat(api.MaxLen, api.MaxDens)}, {flat(1, 1), flat(1, 1)}} {
		for _, many := range []int{0, 1, 7, api.MaxQuery} {
			if e := ask.Check(desk(l, many)); e != api.OK {
				t.Errorf("Check of %v with %d queries = %v", l, many, e)
			}
		}
	}
	for _, f := range flaws() {
		if e := ask.Check(f.d); e != f.e {
			t.Errorf("Check of %v with %d queries = %v; want %v", f.d.Cakes, len(f.d.Log), e, f.e)
		}
	}
}

// P4.1: Open gives the desk with the cakes and no queries, or Check's error.
func TestOpen(t *testing.T) {
	for _, l := range [][]api.Cake{example(), six(), {steep()}} {
		if d, e := ask.Open(l); !same(d, api.Desk{Cakes: l}) || e != api.OK {
			t.Errorf("Open(%v) = %v, %v", l, d, e)
		}
	}
	for _, f := range badCakes() {
		if d, e := ask.Open(f.d.Cakes); !same(d, api.Desk{}) || e != f.e {
			t.Errorf("Open(%v) = %v, %v; want %v", f.d.Cakes, d, e, f.e)
		}
	}
}

// P4.1: Total gives the total of an agent, and is no query.
func TestTotal(t *testing.T) {
	// A full log does not matter to what is no query.
	for _, many := range []int{0, api.MaxQuery} {
		for agent := range api.MaxAgents {
			if got, e := ask.Total(desk(six(), many), agent); got != 2*(agent+1) || e != api.OK {
				t.Errorf("Total(%d) = %d, %v", agent, got, e)
			}
		}
		for _, agent := range noAgents() {
			if got, e := ask.Total(desk(example(), many), agent); got != 0 || e != api.ErrArg {
				t.Errorf("Total(%d) = %d, %v", agent, got, e)
			}
		}
	}
}

// P4.2: Value and Mark give the answer, and the desk with the query behind the log.
func TestAsking(t *testing.T) {
	for _, k := range []api.Query{
		told(0, r(0, 1), r(2, 1), r(2, 1)),
		told(1, r(0, 1), r(2, 1), r(4, 1)),
		told(1, r(1, 2), r(3, 2), r(2, 1)),
		told(1, r(1, 3), r(2, 3), r(1, 1)),
		told(0, r(1, 1), r(1, 1), r(0, 1)),
		marked(0, r(0, 1), r(2, 1), r(2, 1)),
		marked(1, r(0, 1), r(2, 1), r(2, 3)),
		marked(1, r(1, 2), r(2, 1), r(3, 2)),
		marked(0, r(1, 3), r(1, 2), r(5, 6)),
		marked(1, r(2, 1), r(0, 1), r(2, 1)),
	} {
		for _, before := range []int{0, 1, 5, api.MaxQuery - 1} {
			d := desk(example(), before)
			next, v, e := ways()[k.Kind-1].ask(d, k.Agent, k.A, k.B)
			want := api.Desk{Cakes: example(), Log: append(filled(before), k)}
			if v != k.Answer || e != api.OK || !same(next, want) {
				t.Errorf("%v behind %d queries: %v, %v, %d queries", k, before, v, e, len(next.Log))
			}
		}
	}
}

// P4.2: which errors asking has; an error writes no query.
func TestAskingErrors(t *testing.T) {
	for _, k := range []struct {
		agent int
		kind  uint8
		a, b  api.Ratio
		e     api.Errno
	}{
		{0, api.AskValue, r(-1, 1), r(1, 1), api.ErrArg},
		{0, api.AskValue, r(0, 1), r(3, 1), api.ErrArg},
		{0, api.AskValue, r(1, 1), r(0, 1), api.ErrArg},
		{1, api.AskValue, r(2, 4), r(1, 1), api.ErrArg},
		{1, api.AskValue, r(0, 1), api.Ratio{}, api.ErrArg},
		{0, api.AskValue, r(1, top), r(2, 1), api.ErrRange},
		{0, api.AskMark, r(-1, 1), r(1, 1), api.ErrArg},
		{0, api.AskMark, r(3, 1), r(0, 1), api.ErrArg},
		{0, api.AskMark, r(0, 1), r(-1, 1), api.ErrArg},
		{1, api.AskMark, r(0, 1), r(2, 2), api.ErrArg},
		{0, api.AskMark, r(0, 1), r(3, 1), api.ErrNone},
		{1, api.AskMark, r(0, 1), r(5, 1), api.ErrNone},
		{1, api.AskMark, r(2, 1), r(1, 1), api.ErrNone},
		{1, api.AskMark, r(0, 1), r(1, top), api.ErrRange},
	} {
		// A full log comes last: the cake's error is told ahead of it.
		for _, many := range []int{0, 3, api.MaxQuery} {
			d := desk(example(), many)
			if next, v, e := ways()[k.kind-1].ask(d, k.agent, k.a, k.b); !same(next, api.Desk{}) || v != (api.Ratio{}) || e != k.e {
				t.Errorf("%v behind %d queries: %v, %v, %v", k, many, next, v, e)
			}
		}
	}
}

// P4.2: ErrArg for what is no agent, ahead of all other errors of the question.
func TestAskingNobody(t *testing.T) {
	for _, w := range ways() {
		for _, agent := range noAgents() {
			for _, a := range []api.Ratio{r(0, 1), r(1, top), {}} {
				for _, b := range []api.Ratio{r(0, 1), r(2, 1), r(5, 1)} {
					for _, many := range []int{0, api.MaxQuery} {
						next, v, e := w.ask(desk(example(), many), agent, a, b)
						if !same(next, api.Desk{}) || v != (api.Ratio{}) || e != api.ErrArg {
							t.Errorf("%s of agent %d for %v, %v: %v, %v, %v", w.name, agent, a, b, next, v, e)
						}
					}
				}
			}
		}
	}
}

// P4.2: ErrMany for what could be answered, if the log is full.
func TestAskingFull(t *testing.T) {
	for _, w := range ways() {
		d := desk(example(), api.MaxQuery-1)
		full, v, e := w.ask(d, 1, r(0, 1), r(1, 1))
		if len(full.Log) != api.MaxQuery || v == (api.Ratio{}) || e != api.OK {
			t.Fatalf("%s behind %d queries: %d, %v, %v", w.name, len(d.Log), len(full.Log), v, e)
		}
		next, v, e := w.ask(full, 1, r(0, 1), r(1, 1))
		if !same(next, api.Desk{}) || v != (api.Ratio{}) || e != api.ErrMany {
			t.Errorf("%s behind %d queries: %v, %v, %v", w.name, len(full.Log), next, v, e)
		}
	}
}

// P4.3: Count goes by the number alone, and -1 stands for all queries.
func TestCount(t *testing.T) {
	log := []api.Query{told(0, r(0, 1), r(1, 1), r(1, 1)), {Agent: 7}, {Agent: -1}, {Agent: 0, Kind: 9}, {Agent: -5}, {Agent: 7}, {Agent: -1}}
	for _, k := range []struct{ agent, want int }{{0, 2}, {1, 0}, {7, 2}, {-5, 1}, {-2, 0}, {-1, 7}, {1000000, 0}} {
		if got := ask.Count(log, k.agent); got != k.want {
			t.Errorf("Count(%d) = %d; want %d", k.agent, got, k.want)
		}
	}
	for _, agent := range []int{-1, 0, 1} {
		if got := ask.Count(nil, agent); got != 0 {
			t.Errorf("Count of nothing for %d = %d", agent, got)
		}
	}
	// Any log is counted, also one that is too long for a desk.
	if got := ask.Count(make([]api.Query, 5000), 0); got != 5000 {
		t.Errorf("Count of 5000 queries = %d", got)
	}
	if got := ask.Count(make([]api.Query, 5000), -1); got != 5000 {
		t.Errorf("Count of 5000 queries for -1 = %d", got)
	}
}

// right returns queries that are right for the cakes of the example.
func right() []api.Query {
	return []api.Query{
		told(0, r(0, 1), r(1, 1), r(1, 1)),
		told(1, r(0, 1), r(1, 1), r(3, 1)),
		marked(1, r(0, 1), r(1, 1), r(1, 3)),
		told(0, r(1, 1), r(1, 1), r(0, 1)),
		marked(0, r(1, 2), r(0, 1), r(1, 2)),
		marked(1, r(2, 3), r(3, 2), r(3, 2)),
	}
}

// wrong returns queries that are not right for the cakes of the example, for one reason each.
func wrong() []api.Query {
	l := []api.Query{
		{Agent: 0, Kind: 0, A: r(0, 1), B: r(1, 1), Answer: r(1, 1)},
		{Agent: 0, Kind: 3, A: r(0, 1), B: r(1, 1), Answer: r(1, 1)},
		{Agent: 0, Kind: 255, A: r(0, 1), B: r(1, 1), Answer: r(1, 1)},
		told(1, r(0, 1), r(1, 1), r(1, 1)),
		told(0, r(0, 1), r(1, 1), r(3, 1)),
		told(0, r(0, 1), r(1, 1), r(2, 2)),
		told(0, r(0, 1), r(1, 1), r(-1, -1)),
		told(0, r(0, 1), r(2, 2), r(1, 1)),
		told(0, r(1, 1), r(0, 1), r(-1, 1)),
		told(0, r(1, 1), r(0, 1), r(0, 1)),
		marked(0, r(0, 1), r(1, 1), r(2, 1)),
		marked(1, r(0, 1), r(1, 1), r(2, 6)),
		marked(1, r(0, 1), r(3, 1), r(0, 1)),
		// An error is no answer, not even the zero value that comes with it.
		told(0, r(0, 1), r(3, 1), api.Ratio{}),
		told(0, r(1, top), r(2, 1), api.Ratio{}),
		marked(0, r(0, 1), r(3, 1), api.Ratio{}),
		marked(0, r(0, 1), r(-1, 1), api.Ratio{}),
		{Kind: 7},
	}
	for _, agent := range noAgents() {
		l = append(l, told(agent, r(0, 1), r(1, 1), r(1, 1)), marked(agent, r(0, 1), r(1, 1), r(1, 1)), told(agent, r(0, 1), r(1, 1), api.Ratio{}))
	}
	return append(l, strange()...)
}

// P4.3: Replay finds the first query that is not right, wherever it is.
func TestReplay(t *testing.T) {
	for many := range len(right()) + 1 {
		if n, e := ask.Replay(example(), right()[:many]); n != many || e != api.OK {
			t.Errorf("Replay of %d right queries = %d, %v", many, n, e)
		}
	}
	for _, q := range wrong() {
		for at := range len(right()) + 1 {
			log := slices.Insert(right(), at, q)
			for _, behind := range [][]api.Query{nil, wrong()} {
				if n, e := ask.Replay(example(), slices.Concat(log, behind)); n != at || e != api.OK {
					t.Errorf("Replay with %v at %d = %d, %v", q, at, n, e)
				}
			}
		}
	}
	long := slices.Repeat(right()[:4], api.MaxQuery/4)
	if n, e := ask.Replay(example(), long); n != api.MaxQuery || e != api.OK {
		t.Errorf("Replay of %d right queries = %d, %v", len(long), n, e)
	}
	long[api.MaxQuery-1] = wrong()[0]
	if n, e := ask.Replay(example(), long); n != api.MaxQuery-1 || e != api.OK {
		t.Errorf("Replay of %d queries, the last one wrong, = %d, %v", len(long), n, e)
	}
}

// P4.3: Replay has Check's error of the desk with the cakes and the log.
func TestReplayErrors(t *testing.T) {
	for _, f := range flaws() {
		if n, e := ask.Replay(f.d.Cakes, f.d.Log); n != 0 || e != f.e {
			t.Errorf("Replay(%v) with %d queries = %d, %v; want %v", f.d.Cakes, len(f.d.Log), n, e, f.e)
		}
	}
}
