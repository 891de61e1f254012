package halve

import (
	"slices"

	"parcener/api"
	"parcener/ask"
	"parcener/ratio"
)

// mark is up to where an agent wants the left part of a span to reach.
type mark struct {
	agent int
	at    api.Ratio
}

// divide gives a span to some agents of a valid desk: it puts what each one gets into pieces, and returns the desk after this, or the first error of a split.
func divide(d api.Desk, agents []int, s api.Span, pieces [][]api.Span) (api.Desk, api.Errno) {
	if len(agents) == 1 {
		pieces[agents[0]] = []api.Span{s}
		return d, api.OK
	}
	d, at, left, right, e := Split(d, agents, s.From, s.To)
	if e != api.OK {
		return api.Desk{}, e
	}
	d, e = divide(d, left, api.Span{From: s.From, To: at}, pieces)
	if e != api.OK {
		return api.Desk{}, e
	}
	return divide(d, right, api.Span{From: at, To: s.To}, pieces)
}

// marksOf asks some agents of a valid desk for their marks in a span, and returns the desk after this, and the marks from the left to the right, or the first error.
func marksOf(d api.Desk, agents []int, s api.Span) (next api.Desk, l []mark, e api.Errno) {
	part, _ := ratio.Make(int64(half(agents)), int64(len(agents)))
	for _, agent := range agents {
		m := mark{agent: agent}
		if d, m.at, e = markOf(d, agent, s, part); e != api.OK {
			return api.Desk{}, nil, e
		}
		l = append(l, m)
	}
	// The agents were asked in the order of their numbers, in which a stable sort leaves those with the same mark.
	slices.SortStableFunc(l, func(a, b mark) int { return compare(a.at, b.at) })
	return d, l, api.OK
}

// markOf asks an agent for the mark up to which the span has a part of its value, and returns the desk after this and the mark.
func markOf(d api.Desk, agent int, s api.Span, part api.Ratio) (next api.Desk, at api.Ratio, e api.Errno) {
	next, worth, e := worthOf(d, agent, s)
	if e != api.OK {
		return api.Desk{}, api.Ratio{}, e
	}
	wanted, e := ratio.Mul(worth, part)
	if e != api.OK {
		return api.Desk{}, api.Ratio{}, e
	}
	return ask.Mark(next, agent, s.From, wanted)
}

// worthOf returns what a span is worth for an agent, and the desk after this: nobody is asked for the whole cake, whose value is known.
func worthOf(d api.Desk, agent int, s api.Span) (next api.Desk, worth api.Ratio, e api.Errno) {
	if s != all(d) {
		return ask.Value(d, agent, s.From, s.To)
	}
	total, e := ask.Total(d, agent)
	return d, whole(total), e
}

// half returns how many of some agents go to the left.
func half(agents []int) int { return len(agents) / 2 }

// agentsOf returns the agents of some marks in increasing order, in memory of their own.
func agentsOf(l []mark) []int {
	var agents []int
	for _, m := range l {
		agents = append(agents, m.agent)
	}
	slices.Sort(agents)
	return agents
}

// everybody returns all agents of a desk.
func everybody(d api.Desk) []int {
	var l []int
	for agent := range d.Cakes {
		l = append(l, agent)
	}
	return l
}

// all returns the span of the whole cake of a valid desk.
func all(d api.Desk) api.Span { return api.Span{From: whole(0), To: whole(d.Cakes[0].Len)} }

// areAgents reports whether l has strictly increasing numbers of agents of d, at least two.
func areAgents(d api.Desk, l []int) bool {
	least := 0
	for _, agent := range l {
		if agent < least || agent >= len(d.Cakes) {
			return false
		}
		least = agent + 1
	}
	return len(l) > 1
}

// liesIn reports whether s goes from a point of the cake of a valid desk to a greater one.
func liesIn(d api.Desk, s api.Span) bool {
	return isPoint(d, s.From) && isPoint(d, s.To) && compare(s.From, s.To) < 0
}

// isPoint reports whether p is a point of the cake of a valid desk.
func isPoint(d api.Desk, p api.Ratio) bool {
	return ratio.Check(p) == api.OK && p.Num >= 0 && compare(p, all(d).To) <= 0
}

// whole returns the ratio of a whole number.
func whole(n int) api.Ratio { return api.Ratio{Num: int64(n), Den: 1} }

// compare returns how two valid ratios compare.
func compare(a, b api.Ratio) int {
	order, _ := ratio.Cmp(a, b)
	return order
}
