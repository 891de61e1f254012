package trim_test

import (
	"math"
	"math/big"
	"math/rand"
	"slices"

	"parcener/api"
	"parcener/cake"
)

const top = api.MaxRatio

// r writes a ratio short.
func r(num, den int64) api.Ratio { return api.Ratio{Num: num, Den: den} }

// flat returns a cake with one density.
func flat(length, density int) api.Cake {
	return api.Cake{Len: length, Cuts: []int{0, length}, Dens: []int{density}}
}

// steps returns a cake with a density for each whole number.
func steps(densities ...int) api.Cake {
	c := api.Cake{Len: len(densities), Dens: densities}
	for at := range c.Len + 1 {
		c.Cuts = append(c.Cuts, at)
	}
	return c
}

// example returns the cakes of the chapter's example.
func example() []api.Cake {
	return []api.Cake{
		flat(6, 1),
		{Len: 6, Cuts: []int{0, 4, 6}, Dens: []int{1, 4}},
		{Len: 6, Cuts: []int{0, 2, 6}, Dens: []int{2, 0}},
	}
}

// alike returns cakes of n agents who agree about it, each in numbers of its own.
func alike(n int) []api.Cake {
	var l []api.Cake
	for agent := range n {
		l = append(l, flat(n, agent+1))
	}
	return l
}

// falling returns cakes of n agents, each of whom looks for its share nearer to the beginning than all before it, so that each piece is trimmed by all behind.
func falling(n int) []api.Cake {
	var l []api.Cake
	for agent := range n {
		c := steps(make([]int, n)...)
		for at := range n - agent {
			c.Dens[at] = 1
		}
		l = append(l, c)
	}
	return l
}

// told returns the query of a value, with its answer.
func told(agent int, a, b, answer api.Ratio) api.Query {
	return api.Query{Agent: agent, Kind: api.AskValue, A: a, B: b, Answer: answer}
}

// marked returns the query of a mark, with its answer.
func marked(agent int, a, v, answer api.Ratio) api.Query {
	return api.Query{Agent: agent, Kind: api.AskMark, A: a, B: v, Answer: answer}
}

// filled returns a log of so many queries, all of which are right for no cakes.
func filled(many int) []api.Query {
	strange := []api.Query{{}, {Agent: -1, Kind: 255}, told(0, r(0, 1), r(0, 1), r(0, 7)), marked(math.MaxInt, r(1, 0), r(-1, -1), r(5, 5))}
	var l []api.Query
	for i := range many {
		l = append(l, strange[i%len(strange)])
	}
	return l
}

// sameDesk reports whether two desks have the same cakes and logs.
func sameDesk(a, b api.Desk) bool {
	return slices.EqualFunc(a.Cakes, b.Cakes, cake.Same) && slices.Equal(a.Log, b.Log)
}

// sameDivision reports whether two divisions have the same pieces.
func sameDivision(a, b api.Division) bool { return slices.EqualFunc(a.Pieces, b.Pieces, slices.Equal) }

// task is a round that may be asked for.
type task struct {
	d      api.Desk
	agents []int
	from   api.Ratio
}

// flawed is a desk that is not valid, and ask.Check's error of it.
type flawed struct {
	d api.Desk
	e api.Errno
}

// badCakes returns cakes that are not those of a desk, and the error of it.
func badCakes() []flawed {
	many, bad := api.ErrMany, api.ErrBad
	no, long, right := api.Cake{}, flat(api.MaxLen+1, 1), flat(2, 1)
	var l []flawed
	put := func(e api.Errno, cakes ...api.Cake) { l = append(l, flawed{api.Desk{Cakes: cakes}, e}) }
	put(bad)
	put(bad, no)
	put(bad, right, no)
	put(bad, no, long)
	put(bad, right, flat(3, 1))
	put(bad, right, steps(0, 0))
	put(bad, right, right, flat(2, api.MaxDens+1))
	put(many, long)
	put(many, long, no)
	put(many, right, flat(3, 1), long)
	put(many, slices.Repeat([]api.Cake{right}, api.MaxAgents+1)...)
	put(many, make([]api.Cake, 3000)...)
	return append(l, flawed{api.Desk{Cakes: []api.Cake{}, Log: []api.Query{}}, bad})
}

// badDesks returns desks that break each part of the definition.
func badDesks() []flawed {
	l := []flawed{{api.Desk{Cakes: example(), Log: filled(api.MaxQuery + 1)}, api.ErrMany}}
	for _, f := range badCakes() {
		l = append(l, f, flawed{api.Desk{Cakes: f.d.Cakes, Log: filled(7)}, f.e}, flawed{api.Desk{Cakes: f.d.Cakes, Log: filled(api.MaxQuery + 1)}, api.ErrMany})
	}
	return l
}

// noAgents returns lists that no round of three agents has.
func noAgents() [][]int {
	return [][]int{
		nil, {}, {-1}, {3}, {math.MinInt}, {math.MaxInt}, {-1, 0}, {0, 3}, {0, 1, 2, 3}, {-1, 0, 1, 2}, {1, 2, math.MaxInt},
		{0, 0}, {1, 1}, {2, 2}, {0, 1, 1}, {0, 0, 1}, {1, 0}, {2, 1}, {2, 0, 1}, {0, 2, 1}, {0, 1, 2, 0}, {0, 1, 0}, make([]int, 1000),
	}
}

// noStarts returns what is no point less than the end of a cake of the length 6.
func noStarts() []api.Ratio {
	return []api.Ratio{
		{}, r(0, 2), r(2, 4), r(3, 3), r(1, 0), r(0, -1), r(1, -2), r(-1, -2), r(1, top+1), r(math.MinInt64, 1), r(math.MaxInt64, math.MaxInt64),
		r(-1, 1), r(-1, top), r(-top, 1), r(6, 1), r(7, 1), r(13, 2), r(top, 1), r(top, top/6-1),
	}
}

// rat returns a as a number of any size.
func rat(a api.Ratio) *big.Rat { return big.NewRat(a.Num, a.Den) }

// ratioOf returns the ratio of x, which has one.
func ratioOf(x *big.Rat) api.Ratio { return r(x.Num().Int64(), x.Denom().Int64()) }

// between returns the value between two points.
func between(c api.Cake, a, b *big.Rat) *big.Rat {
	sum := new(big.Rat)
	for i, d := range c.Dens {
		from, to := big.NewRat(int64(c.Cuts[i]), 1), big.NewRat(int64(c.Cuts[i+1]), 1)
		if a.Cmp(from) > 0 {
			from = a
		}
		if b.Cmp(to) < 0 {
			to = b
		}
		if from.Cmp(to) < 0 {
			length := new(big.Rat).Sub(to, from)
			sum.Add(sum, length.Mul(length, big.NewRat(int64(d), 1)))
		}
	}
	return sum
}

// reaching returns the least point up to which the value from a on is v, or nil: it lies in the first part at whose end there is so much.
func reaching(c api.Cake, a, v *big.Rat) *big.Rat {
	for i, d := range c.Dens {
		from, to := big.NewRat(int64(c.Cuts[i]), 1), big.NewRat(int64(c.Cuts[i+1]), 1)
		if a.Cmp(from) > 0 {
			from = a
		}
		if d > 0 && between(c, a, to).Cmp(v) >= 0 {
			rest := new(big.Rat).Sub(v, between(c, a, from))
			return rest.Quo(rest, big.NewRat(int64(d), 1)).Add(rest, from)
		}
	}
	return nil
}

// endOf returns the end of a cake.
func endOf(c api.Cake) *big.Rat { return big.NewRat(int64(c.Len), 1) }

// shareOf returns the share of an agent.
func shareOf(l []api.Cake, agent int) *big.Rat {
	total := between(l[agent], new(big.Rat), endOf(l[agent]))
	return total.Quo(total, big.NewRat(int64(len(l)), 1))
}

// clerk answers queries about a cake.
type clerk struct {
	value, mark func(c api.Cake, a, b api.Ratio) (api.Ratio, api.Errno)
}

// official answers as layer 2 does.
func official() clerk { return clerk{cake.Value, cake.Mark} }

// exact answers with numbers of any size, where the answers have ratios.
func exact() clerk {
	return clerk{
		func(c api.Cake, a, b api.Ratio) (api.Ratio, api.Errno) {
			return ratioOf(between(c, rat(a), rat(b))), api.OK
		},
		func(c api.Cake, a, b api.Ratio) (api.Ratio, api.Errno) {
			at := reaching(c, rat(a), rat(b))
			if at == nil {
				return api.Ratio{}, api.ErrNone
			}
			return ratioOf(at), api.OK
		},
	}
}

// asked is how a round, or a run, must be: its turns and what is asked, or its error.
type asked struct {
	turns []api.Turn
	log   []api.Query
	e     api.Errno
}

// round returns how a round of agents must be, as the definitions tell it, with the answers of a clerk.
func (c clerk) round(l []api.Cake, agents []int, from api.Ratio) asked {
	if len(agents) == 1 {
		return asked{turns: []api.Turn{{Agent: agents[0], From: from, To: ratioOf(endOf(l[0]))}}}
	}
	var t api.Turn
	var log []api.Query
	for i, agent := range agents {
		share := ratioOf(shareOf(l, agent))
		trims := 0
		if i > 0 {
			worth, e := c.value(l[agent], from, t.To)
			if e != api.OK {
				return asked{e: e}
			}
			log = append(log, told(agent, from, t.To, worth))
			if rat(worth).Cmp(rat(share)) <= 0 {
				continue
			}
			trims = t.Trims + 1
		}
		at, e := c.mark(l[agent], from, share)
		if e != api.OK {
			return asked{e: e}
		}
		log = append(log, marked(agent, from, share, at))
		t = api.Turn{Agent: agent, From: from, To: at, Trims: trims}
	}
	return asked{turns: []api.Turn{t}, log: log}
}

// run returns how a run must be.
func (c clerk) run(l []api.Cake) asked {
	var all asked
	have := map[int]bool{}
	from := r(0, 1)
	for range l {
		var agents []int
		for agent := range l {
			if !have[agent] {
				agents = append(agents, agent)
			}
		}
		one := c.round(l, agents, from)
		if one.e != api.OK {
			return asked{e: one.e}
		}
		all.turns, all.log = append(all.turns, one.turns[0]), append(all.log, one.log...)
		from, have[one.turns[0].Agent] = one.turns[0].To, true
	}
	return all
}

// division returns the division of the turns of a run.
func (a asked) division() api.Division {
	d := api.Division{Pieces: make([][]api.Span, len(a.turns))}
	for _, t := range a.turns {
		d.Pieces[t.Agent] = []api.Span{{From: t.From, To: t.To}}
	}
	return d
}

// randomCake returns a valid cake of a length.
func randomCake(g *rand.Rand, length int) api.Cake {
	c := api.Cake{Len: length}
	step := 1 + length/8
	for at := 0; at < length; at += g.Intn(step) + 1 {
		c.Cuts = append(c.Cuts, at)
		c.Dens = append(c.Dens, g.Intn(3)*g.Intn(7))
	}
	c.Cuts = append(c.Cuts, length)
	if len(c.Cuts) > api.MaxCuts {
		return flat(length, g.Intn(api.MaxDens)+1)
	}
	c.Dens[g.Intn(len(c.Dens))] = g.Intn(api.MaxDens) + 1
	return c
}

// parties returns random cakes of agents, the same ones each time: some agents agree about the cake, or give nothing to most of it.
func parties() [][]api.Cake {
	g := rand.New(rand.NewSource(8))
	var all [][]api.Cake
	for i := range 2500 {
		length := g.Intn(14) + 1
		if i%20 == 0 {
			length = g.Intn(api.MaxLen) + 1
		}
		var l []api.Cake
		for agent := range g.Intn(api.MaxAgents) + 1 {
			switch {
			case agent > 0 && g.Intn(4) == 0:
				l = append(l, l[g.Intn(agent)])
			case g.Intn(4) == 0:
				from := g.Intn(length)
				l = append(l, narrow(length, from, from+1, g.Intn(api.MaxDens)+1))
			default:
				l = append(l, randomCake(g, length))
			}
		}
		all = append(all, l)
	}
	return all
}

// narrow returns a cake that has a density between two whole numbers alone.
func narrow(length, from, to, density int) api.Cake {
	c := api.Cake{Len: length, Cuts: []int{from, to}, Dens: []int{density}}
	if from > 0 {
		c.Cuts, c.Dens = slices.Insert(c.Cuts, 0, 0), slices.Insert(c.Dens, 0, 0)
	}
	if to < length {
		c.Cuts, c.Dens = append(c.Cuts, length), append(c.Dens, 0)
	}
	return c
}

// tasks returns random rounds of some agents from some point, the same ones each time.
func tasks() []task {
	g := rand.New(rand.NewSource(9))
	var all []task
	for _, l := range parties() {
		var agents []int
		for agent := range l {
			if g.Intn(3) > 0 {
				agents = append(agents, agent)
			}
		}
		if len(agents) == 0 {
			agents = []int{g.Intn(len(l))}
		}
		from := ratioOf(big.NewRat(int64(g.Intn(2*l[0].Len)), 2))
		switch g.Intn(8) {
		case 0:
			from = r(1, top-int64(g.Intn(2)))
		case 1:
			from = ratioOf(big.NewRat(g.Int63n(int64(l[0].Len)*1000), 1000))
		case 2, 3:
			from = r(0, 1)
		}
		all = append(all, task{api.Desk{Cakes: l, Log: filled(g.Intn(4))}, agents, from})
	}
	return all
}
