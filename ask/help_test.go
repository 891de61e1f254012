package ask_test

import (
	"math"
	"math/rand"
	"slices"

	"parcener/api"
	"parcener/ask"
	"parcener/cake"
)

const top = api.MaxRatio

// r writes a ratio short.
func r(num, den int64) api.Ratio { return api.Ratio{Num: num, Den: den} }

// flat returns a cake with one density.
func flat(length, density int) api.Cake {
	return api.Cake{Len: length, Cuts: []int{0, length}, Dens: []int{density}}
}

// steep is the second cake of the chapter's examples.
func steep() api.Cake {
	return api.Cake{Len: 2, Cuts: []int{0, 1, 2}, Dens: []int{3, 1}}
}

// example returns the cakes of the chapter's examples.
func example() []api.Cake { return []api.Cake{flat(2, 1), steep()} }

// six returns as many cakes as are allowed, each of another total.
func six() []api.Cake {
	var l []api.Cake
	for i := range api.MaxAgents {
		l = append(l, flat(2, i+1))
	}
	return l
}

// told returns the query of a value, with its answer.
func told(agent int, a, b, answer api.Ratio) api.Query {
	return api.Query{Agent: agent, Kind: api.AskValue, A: a, B: b, Answer: answer}
}

// marked returns the query of a mark, with its answer.
func marked(agent int, a, v, answer api.Ratio) api.Query {
	return api.Query{Agent: agent, Kind: api.AskMark, A: a, B: v, Answer: answer}
}

// strange returns queries that are right for no cakes at all.
func strange() []api.Query {
	return []api.Query{
		{}, {Agent: -1}, {Agent: math.MinInt, Kind: 255}, {Agent: math.MaxInt, Kind: api.AskMark},
		told(-1, r(0, 1), r(0, 1), r(0, 1)), told(api.MaxAgents, r(0, 1), r(0, 1), r(0, 1)),
		told(0, r(0, 1), r(0, 1), r(0, 7)), marked(1, r(1, 0), r(math.MinInt64, -1), r(5, 5)),
	}
}

// filled returns a log of so many queries, all of them strange.
func filled(many int) []api.Query {
	var l []api.Query
	for i := range many {
		l = append(l, strange()[i%len(strange())])
	}
	return l
}

// desk returns the desk with some cakes and a log of so many queries.
func desk(l []api.Cake, many int) api.Desk {
	return api.Desk{Cakes: l, Log: filled(many)}
}

// same reports whether two desks have the same cakes and logs.
func same(a, b api.Desk) bool {
	return slices.EqualFunc(a.Cakes, b.Cakes, cake.Same) && slices.Equal(a.Log, b.Log)
}

// flawed is a desk that is not valid, and Check's error of it.
type flawed struct {
	d api.Desk
	e api.Errno
}

// badCakes are the flawed desks that have no query too much.
func badCakes() []flawed {
	many, bad := api.ErrMany, api.ErrBad
	no, long := api.Cake{}, flat(api.MaxLen+1, 1)
	return []flawed{
		{api.Desk{}, bad},
		{api.Desk{Cakes: []api.Cake{}, Log: []api.Query{}}, bad},
		{desk(nil, api.MaxQuery), bad},
		{api.Desk{Cakes: []api.Cake{no}}, bad},
		{api.Desk{Cakes: []api.Cake{long}}, many},
		{api.Desk{Cakes: []api.Cake{flat(2, 1), no}}, bad},
		{api.Desk{Cakes: []api.Cake{flat(2, 1), long}}, many},
		{api.Desk{Cakes: []api.Cake{no, long}}, bad},
		{api.Desk{Cakes: []api.Cake{long, no}}, many},
		{api.Desk{Cakes: []api.Cake{flat(2, 1), long, no}}, many},
		{api.Desk{Cakes: []api.Cake{flat(2, 1), flat(3, 1)}}, bad},
		{api.Desk{Cakes: []api.Cake{flat(3, 1), steep()}}, bad},
		{api.Desk{Cakes: []api.Cake{flat(2, 1), steep(), flat(1, 1)}}, bad},
		{api.Desk{Cakes: append(six()[:api.MaxAgents-1], flat(1, 1))}, bad},
		// The error of a cake comes ahead of lengths that differ before it.
		{api.Desk{Cakes: []api.Cake{flat(2, 1), flat(3, 1), long}}, many},
		{api.Desk{Cakes: []api.Cake{flat(2, 1), flat(2, 13)}}, bad},
		{api.Desk{Cakes: append(six(), flat(2, 1))}, many},
		{api.Desk{Cakes: make([]api.Cake, api.MaxAgents+1)}, many},
		{api.Desk{Cakes: make([]api.Cake, 3000)}, many},
	}
}

// flaws returns desks that break each part of the definition.
func flaws() []flawed {
	l := []flawed{
		{desk(example(), api.MaxQuery+1), api.ErrMany},
		{desk(six(), 3000), api.ErrMany},
	}
	for _, f := range badCakes() {
		// One query too much comes ahead of all that is wrong with cakes.
		l = append(l, f, flawed{api.Desk{Cakes: f.d.Cakes, Log: filled(api.MaxQuery + 1)}, api.ErrMany})
	}
	return l
}

// noAgents returns numbers that are no agents of a desk with two cakes.
func noAgents() []int {
	return []int{-1, 2, 3, api.MaxAgents, -2, math.MinInt, math.MaxInt}
}

// way is one of both ways of asking, beside what answers it.
type way struct {
	name   string
	kind   uint8
	ask    func(d api.Desk, agent int, a, b api.Ratio) (api.Desk, api.Ratio, api.Errno)
	answer func(c api.Cake, a, b api.Ratio) (api.Ratio, api.Errno)
}

func ways() []way {
	return []way{
		{"Value", 1, ask.Value, cake.Value},
		{"Mark", 2, ask.Mark, cake.Mark},
	}
}

// randomCake returns a valid cake of a length.
func randomCake(g *rand.Rand, length int) api.Cake {
	c := api.Cake{Len: length}
	for at := 0; at < length; at += g.Intn(4) + 1 {
		c.Cuts = append(c.Cuts, at)
		c.Dens = append(c.Dens, g.Intn(4)*g.Intn(5))
	}
	c.Cuts = append(c.Cuts, length)
	c.Dens[g.Intn(len(c.Dens))] = g.Intn(api.MaxDens) + 1
	return c
}

// randomRatio returns a ratio that may be a point, or lie beyond the cake, or be none at all.
func randomRatio(g *rand.Rand, length int) api.Ratio {
	switch g.Intn(12) {
	case 0:
		return r(1, top-int64(g.Intn(2)))
	case 1:
		return []api.Ratio{{}, r(2, 4), r(-1, 1), r(top, 1), r(int64(length)+1, 1)}[g.Intn(5)]
	case 2, 3, 4:
		return r(int64(g.Intn(2*length))*2+1, 2)
	}
	return r(int64(g.Intn(length+1)), 1)
}

// session is some cakes, and what is asked of them: queries with any arguments, and no answers.
type session struct {
	cakes []api.Cake
	asked []api.Query
}

// sessions returns random ones, the same ones each time.
func sessions() []session {
	g := rand.New(rand.NewSource(7))
	var l []session
	for range 1500 {
		var s session
		length := g.Intn(12) + 1
		for range g.Intn(api.MaxAgents) + 1 {
			s.cakes = append(s.cakes, randomCake(g, length))
		}
		for range g.Intn(25) {
			q := api.Query{Agent: g.Intn(len(s.cakes)), Kind: uint8(g.Intn(2) + 1)}
			q.A, q.B = randomRatio(g, length), randomRatio(g, length)
			s.asked = append(s.asked, q)
		}
		l = append(l, s)
	}
	return l
}

// run asks all queries of a session that can be asked, and returns the desk after them.
func run(s session) (api.Desk, api.Errno) {
	d, e := ask.Open(s.cakes)
	if e != api.OK {
		return d, e
	}
	for _, q := range s.asked {
		if next, _, e := ways()[q.Kind-1].ask(d, q.Agent, q.A, q.B); e == api.OK {
			d = next
		}
	}
	return d, api.OK
}
