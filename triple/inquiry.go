package triple

import (
	"parcener/api"
	"parcener/ask"
	"parcener/ratio"
)

// inquiry asks the agents of a desk, one query after the other, up to the first error: from then on nobody is asked, and answers mean nothing. So the steps of both parts need not look for errors between any two queries.
type inquiry struct {
	desk api.Desk
	e    api.Errno
}

// query is ask.Value or ask.Mark.
type query func(d api.Desk, agent int, a, b api.Ratio) (api.Desk, api.Ratio, api.Errno)

// put asks a query, and returns the answer.
func (q *inquiry) put(asked query, agent int, a, b api.Ratio) (answer api.Ratio) {
	if q.e == api.OK {
		q.desk, answer, q.e = asked(q.desk, agent, a, b)
	}
	return answer
}

// values asks an agent what each of some spans is worth, in order.
func (q *inquiry) values(agent int, spans ...api.Span) []api.Ratio {
	var l []api.Ratio
	for _, s := range spans {
		l = append(l, q.put(ask.Value, agent, s.From, s.To))
	}
	return l
}

// mark asks an agent for the mark from a point for a value.
func (q *inquiry) mark(agent int, from, v api.Ratio) api.Ratio {
	return q.put(ask.Mark, agent, from, v)
}

// thirds asks an agent for the marks that divide a span, which has a worth for it, into three parts of the same worth.
func (q *inquiry) thirds(agent int, s api.Span, worth api.Ratio) [three]api.Span {
	markFor := func(many int64) api.Ratio {
		part, _ := ratio.Mul(worth, api.Ratio{Num: many, Den: three})
		return q.mark(agent, s.From, part)
	}
	a, b := markFor(1), markFor(2)
	return [three]api.Span{{From: s.From, To: a}, {From: a, To: b}, {From: b, To: s.To}}
}

// total returns what the whole cake is worth for an agent.
func (q *inquiry) total(agent int) api.Ratio {
	total, _ := ask.Total(q.desk, agent)
	return whole(total)
}

// all returns the span of the whole cake.
func (q *inquiry) all() api.Span {
	return api.Span{From: whole(0), To: whole(q.desk.Cakes[0].Len)}
}

// whole returns the ratio of a whole number.
func whole(n int) api.Ratio { return api.Ratio{Num: int64(n), Den: 1} }
