package ask

import (
	"slices"

	"parcener/api"
	"parcener/cake"
)

// office is a valid desk at work.
type office struct {
	api.Desk
}

// has reports whether there is an agent with a number.
func (o office) has(agent int) bool { return agent >= 0 && agent < len(o.Cakes) }

// answer returns the right answer to what q asks: ErrArg if there is no such agent or kind, and the error of its cake.
func (o office) answer(q api.Query) (api.Ratio, api.Errno) {
	if !o.has(q.Agent) {
		return api.Ratio{}, api.ErrArg
	}
	switch q.Kind {
	case api.AskValue:
		return cake.Value(o.Cakes[q.Agent], q.A, q.B)
	case api.AskMark:
		return cake.Mark(o.Cakes[q.Agent], q.A, q.B)
	}
	return api.Ratio{}, api.ErrArg
}

// wrong reports whether q, any query, is not right.
func (o office) wrong(q api.Query) bool {
	answer, e := o.answer(q)
	return e != api.OK || answer != q.Answer
}

// copied returns the desk in new memory, also where its cakes have memory in common.
func (o office) copied() api.Desk {
	next := api.Desk{Log: slices.Clone(o.Log)}
	for _, c := range o.Cakes {
		next.Cakes = append(next.Cakes, api.Cake{Len: c.Len, Cuts: slices.Clone(c.Cuts), Dens: slices.Clone(c.Dens)})
	}
	return next
}
