package choose

import (
	"parcener/api"
	"parcener/ask"
	"parcener/ratio"
)

// The steps of the three states.
const (
	begun  = 0
	cut    = 1
	chosen = 2
)

// reached returns the state of some cakes and a cutter with a step, or Start's error.
func reached(l []api.Cake, cutter, step int) (api.Choice, api.Errno) {
	d, e := ask.Open(l)
	if e != api.OK {
		return api.Choice{}, e
	}
	if len(l) != 2 || cutter != 0 && cutter != 1 {
		return api.Choice{}, api.ErrArg
	}
	s := api.Choice{Desk: d, Cutter: cutter, Step: begun, At: whole(0)}
	for s.Step < step {
		s = following(s)
	}
	return s, api.OK
}

// following returns the state behind a valid one that is not the last one.
func following(s api.Choice) api.Choice {
	if s.Step == begun {
		return afterCut(s)
	}
	return afterChoice(s)
}

// afterCut returns the state behind the first one. Asking has no error: each agent has a mark for half of its total.
func afterCut(s api.Choice) api.Choice {
	s.Desk, s.At, _ = ask.Mark(s.Desk, s.Cutter, whole(0), half(s.Desk, s.Cutter))
	s.Step = cut
	return s
}

// afterChoice returns the state behind the second one. Asking has no error: a mark of one agent is a point for the other one.
func afterChoice(s api.Choice) api.Choice {
	chooser := other(s.Cutter)
	next, left, _ := ask.Value(s.Desk, chooser, whole(0), s.At)
	order, _ := ratio.Cmp(left, half(s.Desk, chooser))
	s.Desk, s.Left, s.Step = next, order >= 0, chosen
	return s
}

// divided returns the division of a valid state that is the last one.
func divided(s api.Choice) api.Division {
	first := s.Cutter
	if s.Left {
		first = other(s.Cutter)
	}
	d := api.Division{Pieces: make([][]api.Span, 2)}
	d.Pieces[first] = []api.Span{{From: whole(0), To: s.At}}
	d.Pieces[other(first)] = []api.Span{{From: s.At, To: whole(s.Desk.Cakes[0].Len)}}
	return d
}

// half returns half of the total of an agent of a valid desk.
func half(d api.Desk, agent int) api.Ratio {
	total, _ := ask.Total(d, agent)
	h, _ := ratio.Make(int64(total), 2)
	return h
}

// other returns the other one of two agents.
func other(agent int) int { return 1 - agent }

// whole returns the ratio of a whole number.
func whole(n int) api.Ratio { return api.Ratio{Num: int64(n), Den: 1} }
