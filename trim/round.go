package trim

import (
	"iter"
	"slices"

	"parcener/api"
	"parcener/ask"
	"parcener/ratio"
)

// round is a round that is over: the desk after it, and its turn.
type round struct {
	desk api.Desk
	turn api.Turn
}

// rounds yields the rounds of a run with a valid desk, and the first error of a query in place of the round that has it.
func rounds(d api.Desk) iter.Seq2[round, api.Errno] {
	return func(yield func(round, api.Errno) bool) {
		from, left := whole(0), everybody(d)
		for len(left) > 0 {
			r, e := played(d, left, from)
			if !yield(r, e) || e != api.OK {
				return
			}
			d, from = r.desk, r.turn.To
			left = slices.DeleteFunc(left, func(agent int) bool { return agent == r.turn.Agent })
		}
	}
}

// played returns a round of some agents of a valid desk from a point before its end, or the first error of a query.
func played(d api.Desk, agents []int, from api.Ratio) (round, api.Errno) {
	if len(agents) == 1 {
		return round{d, api.Turn{Agent: agents[0], From: from, To: end(d)}}, api.OK
	}
	t := api.Turn{From: from}
	holder := 0
holding:
	for {
		var e api.Errno
		t.Agent = agents[holder]
		if d, t.To, e = ask.Mark(d, t.Agent, from, share(d, t.Agent)); e != api.OK {
			return round{}, e
		}
		for behind := holder + 1; behind < len(agents); behind++ {
			var more bool
			if d, more, e = givesMore(d, agents[behind], t); e != api.OK {
				return round{}, e
			}
			// Who gives more than its share to the piece holds it from now on, and only those behind are still to be asked.
			if more {
				holder = behind
				t.Trims++
				continue holding
			}
		}
		return round{d, t}, api.OK
	}
}

// givesMore asks an agent what the piece of a turn is worth, and returns the desk after this, and whether it is more than its share.
func givesMore(d api.Desk, agent int, t api.Turn) (next api.Desk, more bool, e api.Errno) {
	next, worth, e := ask.Value(d, agent, t.From, t.To)
	if e != api.OK {
		return api.Desk{}, false, e
	}
	return next, less(share(d, agent), worth), api.OK
}

// share returns the share of an agent of a valid desk: its total divided by the number of all agents, also in a round of a few.
func share(d api.Desk, agent int) api.Ratio {
	total, _ := ask.Total(d, agent)
	part, _ := ratio.Make(int64(total), int64(len(d.Cakes)))
	return part
}

// copied returns a valid desk in new memory.
func copied(d api.Desk) api.Desk {
	next, _ := ask.Open(d.Cakes)
	next.Log = slices.Clone(d.Log)
	return next
}

// everybody returns all agents of a desk.
func everybody(d api.Desk) []int {
	var l []int
	for agent := range d.Cakes {
		l = append(l, agent)
	}
	return l
}

// areAgents reports whether l has strictly increasing numbers of agents of d, at least one.
func areAgents(d api.Desk, l []int) bool {
	before := -1
	for _, agent := range l {
		if agent <= before || agent >= len(d.Cakes) {
			return false
		}
		before = agent
	}
	return len(l) > 0
}

// liesBeforeEnd reports whether p is a point of the cake of a valid desk, and less than its end.
func liesBeforeEnd(d api.Desk, p api.Ratio) bool {
	return ratio.Check(p) == api.OK && p.Num >= 0 && less(p, end(d))
}

// end returns the point at which the cake of a valid desk ends.
func end(d api.Desk) api.Ratio { return whole(d.Cakes[0].Len) }

// whole returns the ratio of a whole number.
func whole(n int) api.Ratio { return api.Ratio{Num: int64(n), Den: 1} }

// less reports whether a is less than b, which are valid.
func less(a, b api.Ratio) bool {
	order, _ := ratio.Cmp(a, b)
	return order < 0
}
