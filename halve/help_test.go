package halve_test

import (
	"math"
	"math/big"
	"math/rand"
	"slices"

	"parcener/api"
	"parcener/cake"
	"parcener/ratio"
)

const top = api.MaxRatio

// r writes a ratio short.
func r(num, den int64) api.Ratio { return api.Ratio{Num: num, Den: den} }

// flat returns a cake with one density.
func flat(length, density int) api.Cake {
	return api.Cake{Len: length, Cuts: []int{0, length}, Dens: []int{density}}
}

// steps returns a cake with a density for each whole number.
func steps(densities ...int) api.Cake {
	c := api.Cake{Len: len(densities), Dens: densities}
	for at := range c.Len + 1 {
		c.Cuts = append(c.Cuts, at)
	}
	return c
}

// example returns the cakes of the chapter's example.
func example() []api.Cake {
	return []api.Cake{
		flat(6, 1),
		{Len: 6, Cuts: []int{0, 4, 6}, Dens: []int{1, 4}},
		{Len: 6, Cuts: []int{0, 2, 6}, Dens: []int{2, 0}},
	}
}

// alike returns cakes of n agents who agree about it, each in numbers of its own.
func alike(n int) []api.Cake {
	var l []api.Cake
	for agent := range n {
		l = append(l, flat(n, agent+1))
	}
	return l
}

// wanting returns cakes of agents, each of whom wants all between one whole number and the next, and nothing else.
func wanting(places ...int) []api.Cake {
	var l []api.Cake
	for _, place := range places {
		c := steps(make([]int, len(places))...)
		c.Dens[place] = 1
		l = append(l, c)
	}
	return l
}

// told returns the query of a value, with its answer.
func told(agent int, a, b, answer api.Ratio) api.Query {
	return api.Query{Agent: agent, Kind: api.AskValue, A: a, B: b, Answer: answer}
}

// marked returns the query of a mark, with its answer.
func marked(agent int, a, v, answer api.Ratio) api.Query {
	return api.Query{Agent: agent, Kind: api.AskMark, A: a, B: v, Answer: answer}
}

// filled returns a log of so many queries, all of which are right for no cakes.
func filled(many int) []api.Query {
	strange := []api.Query{{}, {Agent: -1, Kind: 255}, told(0, r(0, 1), r(0, 1), r(0, 7)), marked(math.MaxInt, r(1, 0), r(-1, -1), r(5, 5))}
	var l []api.Query
	for i := range many {
		l = append(l, strange[i%len(strange)])
	}
	return l
}

// sameDesk reports whether two desks have the same cakes and logs.
func sameDesk(a, b api.Desk) bool {
	return slices.EqualFunc(a.Cakes, b.Cakes, cake.Same) && slices.Equal(a.Log, b.Log)
}

// sameDivision reports whether two divisions have the same pieces.
func sameDivision(a, b api.Division) bool { return slices.EqualFunc(a.Pieces, b.Pieces, slices.Equal) }

// task is a split that may be asked for.
type task struct {
	d      api.Desk
	agents []int
	s      api.Span
}

// outcome is what a split gives, but for the desk: what is asked stands for it.
type outcome struct {
	at          api.Ratio
	left, right []int
	asked       []api.Query
	e           api.Errno
}

// sameCut reports whether two outcomes have the same cut, with the same agents on both sides.
func sameCut(a, b outcome) bool {
	return a.at == b.at && slices.Equal(a.left, b.left) && slices.Equal(a.right, b.right)
}

// flawed is a desk that is not valid, and ask.Check's error of it.
type flawed struct {
	d api.Desk
	e api.Errno
}

// badCakes returns cakes that are not those of a desk, and the error of it.
func badCakes() []flawed {
	many, bad := api.ErrMany, api.ErrBad
	no, long, right := api.Cake{}, flat(api.MaxLen+1, 1), flat(2, 1)
	var l []flawed
	put := func(e api.Errno, cakes ...api.Cake) { l = append(l, flawed{api.Desk{Cakes: cakes}, e}) }
	put(bad)
	put(bad, no)
	put(bad, right, no)
	put(bad, no, long)
	put(bad, right, flat(3, 1))
	put(bad, right, steps(0, 0))
	put(bad, right, right, flat(2, api.MaxDens+1))
	put(many, long)
	put(many, long, no)
	put(many, right, flat(3, 1), long)
	put(many, slices.Repeat([]api.Cake{right}, api.MaxAgents+1)...)
	put(many, make([]api.Cake, 3000)...)
	return append(l, flawed{api.Desk{Cakes: []api.Cake{}, Log: []api.Query{}}, bad})
}

// badDesks returns desks that break each part of the definition.
func badDesks() []flawed {
	l := []flawed{{api.Desk{Cakes: example(), Log: filled(api.MaxQuery + 1)}, api.ErrMany}}
	for _, f := range badCakes() {
		l = append(l, f, flawed{api.Desk{Cakes: f.d.Cakes, Log: filled(7)}, f.e}, flawed{api.Desk{Cakes: f.d.Cakes, Log: filled(api.MaxQuery + 1)}, api.ErrMany})
	}
	return l
}

// noAgents returns lists that no split of three agents has.
func noAgents() [][]int {
	return [][]int{
		nil, {}, {0}, {1}, {2}, {-1}, {3}, {math.MinInt}, {math.MaxInt}, {-1, 0}, {0, 3}, {0, 1, 2, 3}, {-1, 0, 1, 2}, {1, 2, math.MaxInt}, {math.MaxInt, 0},
		{math.MinInt, 0, 1}, {0, 0}, {1, 1}, {2, 2}, {0, 1, 1}, {0, 0, 1}, {1, 0}, {2, 1}, {2, 0, 1}, {0, 2, 1}, {0, 1, 2, 0}, {0, 1, 0}, make([]int, 1000),
	}
}

// noPoints returns what is no point of a cake of the length 6.
func noPoints() []api.Ratio {
	return []api.Ratio{
		{}, r(0, 2), r(2, 4), r(3, 3), r(1, 0), r(0, -1), r(1, -2), r(-1, -2), r(1, top+1), r(math.MinInt64, 1), r(math.MaxInt64, math.MaxInt64),
		r(-1, 1), r(-1, top), r(-top, 1), r(7, 1), r(13, 2), r(top, 1), r(top, top/6-1),
	}
}

// noSpans returns pairs that are not a point of a cake of the length 6 and a greater one.
func noSpans() []api.Span {
	zero, end := r(0, 1), r(6, 1)
	l := []api.Span{
		{}, {From: zero, To: zero}, {From: end, To: end}, {From: r(5, 2), To: r(5, 2)}, {From: end, To: zero}, {From: r(3, 1), To: r(2, 1)},
		{From: r(1, top-1), To: r(1, top)}, {From: r(top, top-1), To: r(1, 1)},
	}
	for _, p := range noPoints() {
		l = append(l, api.Span{From: p, To: end}, api.Span{From: zero, To: p}, api.Span{From: p, To: p}, api.Span{From: end, To: p}, api.Span{From: p, To: zero})
	}
	return l
}

// rat returns a as a number of any size.
func rat(a api.Ratio) *big.Rat { return big.NewRat(a.Num, a.Den) }

// ratioOf returns the ratio of x, which has one.
func ratioOf(x *big.Rat) api.Ratio { return r(x.Num().Int64(), x.Denom().Int64()) }

// between returns the value between two points.
func between(c api.Cake, a, b *big.Rat) *big.Rat {
	sum := new(big.Rat)
	for i, d := range c.Dens {
		from, to := big.NewRat(int64(c.Cuts[i]), 1), big.NewRat(int64(c.Cuts[i+1]), 1)
		if a.Cmp(from) > 0 {
			from = a
		}
		if b.Cmp(to) < 0 {
			to = b
		}
		if from.Cmp(to) < 0 {
			length := new(big.Rat).Sub(to, from)
			sum.Add(sum, length.Mul(length, big.NewRat(int64(d), 1)))
		}
	}
	return sum
}

// reaching returns the least point up to which the value from a on is v, or nil: it is a, or lies in the first part at whose end there is so much.
func reaching(c api.Cake, a, v *big.Rat) *big.Rat {
	if v.Sign() == 0 {
		return a
	}
	for i, d := range c.Dens {
		from, to := big.NewRat(int64(c.Cuts[i]), 1), big.NewRat(int64(c.Cuts[i+1]), 1)
		if a.Cmp(from) > 0 {
			from = a
		}
		if d > 0 && between(c, a, to).Cmp(v) >= 0 {
			rest := new(big.Rat).Sub(v, between(c, a, from))
			return rest.Quo(rest, big.NewRat(int64(d), 1)).Add(rest, from)
		}
	}
	return nil
}

// endOf returns the end of a cake.
func endOf(c api.Cake) *big.Rat { return big.NewRat(int64(c.Len), 1) }

// totalOf returns the total of a cake.
func totalOf(c api.Cake) *big.Rat { return between(c, new(big.Rat), endOf(c)) }

// fraction returns m / k of x.
func fraction(x *big.Rat, m, k int) *big.Rat {
	return new(big.Rat).Mul(x, big.NewRat(int64(m), int64(k)))
}

// clerk answers queries about a cake, and reckons parts of values.
type clerk struct {
	value, mark func(c api.Cake, a, b api.Ratio) (api.Ratio, api.Errno)
	part        func(v api.Ratio, m, k int) (api.Ratio, api.Errno)
}

// official answers as the layers 1 and 2 do.
func official() clerk {
	return clerk{cake.Value, cake.Mark, func(v api.Ratio, m, k int) (api.Ratio, api.Errno) {
		return ratio.Mul(v, ratioOf(big.NewRat(int64(m), int64(k))))
	}}
}

// exact answers with numbers of any size, where the answers have ratios.
func exact() clerk {
	return clerk{
		func(c api.Cake, a, b api.Ratio) (api.Ratio, api.Errno) {
			return ratioOf(between(c, rat(a), rat(b))), api.OK
		},
		func(c api.Cake, a, b api.Ratio) (api.Ratio, api.Errno) {
			at := reaching(c, rat(a), rat(b))
			if at == nil {
				return api.Ratio{}, api.ErrNone
			}
			return ratioOf(at), api.OK
		},
		func(v api.Ratio, m, k int) (api.Ratio, api.Errno) { return ratioOf(fraction(rat(v), m, k)), api.OK },
	}
}

// asks returns the queries of one agent in a split of k, the last of which is its mark.
func (c clerk) asks(k api.Cake, agent, m, many int, s api.Span) ([]api.Query, api.Errno) {
	var asked []api.Query
	worth := ratioOf(totalOf(k))
	if rat(s.From).Sign() != 0 || rat(s.To).Cmp(endOf(k)) != 0 {
		var e api.Errno
		if worth, e = c.value(k, s.From, s.To); e != api.OK {
			return nil, e
		}
		asked = append(asked, told(agent, s.From, s.To, worth))
	}
	wanted, e := c.part(worth, m, many)
	if e != api.OK {
		return nil, e
	}
	at, e := c.mark(k, s.From, wanted)
	if e != api.OK {
		return nil, e
	}
	return append(asked, marked(agent, s.From, wanted, at)), api.OK
}

// split returns how a split must be, as the definitions tell it, with the answers of a clerk: an agent goes to the left if fewer than m come before it.
func (c clerk) split(l []api.Cake, agents []int, s api.Span) outcome {
	var o outcome
	m := len(agents) / 2
	marks := map[int]*big.Rat{}
	for _, agent := range agents {
		asked, e := c.asks(l[agent], agent, m, len(agents), s)
		if e != api.OK {
			return outcome{e: e}
		}
		o.asked = append(o.asked, asked...)
		marks[agent] = rat(asked[len(asked)-1].Answer)
	}
	for _, agent := range agents {
		before := 0
		for _, other := range agents {
			if order := marks[other].Cmp(marks[agent]); order < 0 || order == 0 && other < agent {
				before++
			}
		}
		if before < m {
			o.left = append(o.left, agent)
		} else {
			o.right = append(o.right, agent)
		}
		if before == m-1 {
			o.at = ratioOf(marks[agent])
		}
	}
	return o
}

// part is what some agents have to divide.
type part struct {
	agents []int
	s      api.Span
}

// whole returns the part that is the whole cake, with all agents.
func whole(l []api.Cake) part {
	p := part{s: api.Span{From: r(0, 1), To: r(int64(l[0].Len), 1)}}
	for agent := range l {
		p.agents = append(p.agents, agent)
	}
	return p
}

// parts returns both parts of a part that was split.
func (p part) parts(o outcome) []part {
	return []part{{o.left, api.Span{From: p.s.From, To: o.at}}, {o.right, api.Span{From: o.at, To: p.s.To}}}
}

// run returns how a run must be: the division, and what is asked.
func (c clerk) run(l []api.Cake) (api.Division, []api.Query, api.Errno) {
	d := api.Division{Pieces: make([][]api.Span, len(l))}
	var log []api.Query
	waiting := []part{whole(l)}
	for len(waiting) > 0 {
		p := waiting[0]
		waiting = waiting[1:]
		if len(p.agents) == 1 {
			d.Pieces[p.agents[0]] = []api.Span{p.s}
			continue
		}
		o := c.split(l, p.agents, p.s)
		if o.e != api.OK {
			return api.Division{}, nil, o.e
		}
		log = append(log, o.asked...)
		waiting = append(p.parts(o), waiting...)
	}
	return d, log, api.OK
}

// randomCake returns a valid cake of a length.
func randomCake(g *rand.Rand, length int) api.Cake {
	c := api.Cake{Len: length}
	step := 1 + length/8
	for at := 0; at < length; at += g.Intn(step) + 1 {
		c.Cuts = append(c.Cuts, at)
		c.Dens = append(c.Dens, g.Intn(3)*g.Intn(7))
	}
	c.Cuts = append(c.Cuts, length)
	if len(c.Cuts) > api.MaxCuts {
		return flat(length, g.Intn(api.MaxDens)+1)
	}
	c.Dens[g.Intn(len(c.Dens))] = g.Intn(api.MaxDens) + 1
	return c
}

// narrow returns a cake that has a density between two whole numbers alone.
func narrow(length, from, to, density int) api.Cake {
	c := api.Cake{Len: length, Cuts: []int{from, to}, Dens: []int{density}}
	if from > 0 {
		c.Cuts, c.Dens = slices.Insert(c.Cuts, 0, 0), slices.Insert(c.Dens, 0, 0)
	}
	if to < length {
		c.Cuts, c.Dens = append(c.Cuts, length), append(c.Dens, 0)
	}
	return c
}

// parties returns random cakes of agents, the same ones each time: some agents agree about the cake, or give nothing to most of it.
func parties() [][]api.Cake {
	g := rand.New(rand.NewSource(9))
	var all [][]api.Cake
	for i := range 2500 {
		length := g.Intn(14) + 1
		if i%20 == 0 {
			length = g.Intn(api.MaxLen) + 1
		}
		var l []api.Cake
		for agent := range g.Intn(api.MaxAgents) + 1 {
			switch {
			case agent > 0 && g.Intn(4) == 0:
				l = append(l, l[g.Intn(agent)])
			case g.Intn(4) == 0:
				from := g.Intn(length)
				l = append(l, narrow(length, from, from+1, g.Intn(api.MaxDens)+1))
			default:
				l = append(l, randomCake(g, length))
			}
		}
		all = append(all, l)
	}
	return all
}

// randomPoint returns a point of a cake of a length: a whole number or a half of one, or one that leaves little room for more digits.
func randomPoint(g *rand.Rand, length int) api.Ratio {
	switch g.Intn(12) {
	case 0:
		return r(1, top-int64(g.Intn(2)))
	case 1:
		return r(top-1, top)
	case 2, 3:
		return ratioOf(big.NewRat(g.Int63n(int64(length)*1000+1), 1000))
	}
	return ratioOf(big.NewRat(int64(g.Intn(2*length+1)), 2))
}

// randomSpan returns a span of a cake of a length, often the whole one, or one that has an end in common with it.
func randomSpan(g *rand.Rand, length int) api.Span {
	s := api.Span{From: r(0, 1), To: r(int64(length), 1)}
	kind := g.Intn(8)
	if kind > 1 {
		s.From = randomPoint(g, length)
	}
	if kind > 3 || kind == 1 {
		s.To = randomPoint(g, length)
	}
	if order := rat(s.From).Cmp(rat(s.To)); order > 0 {
		s.From, s.To = s.To, s.From
	} else if order == 0 {
		return randomSpan(g, length)
	}
	return s
}

// tasks returns random splits of some agents between some points, the same ones each time.
func tasks() []task {
	g := rand.New(rand.NewSource(10))
	var all []task
	for _, l := range parties() {
		if len(l) < 2 {
			continue
		}
		agents := whole(l).agents
		for g.Intn(2) > 0 && len(agents) > 2 {
			out := g.Intn(len(agents))
			agents = slices.Delete(agents, out, out+1)
		}
		all = append(all, task{api.Desk{Cakes: l, Log: filled(g.Intn(4))}, agents, randomSpan(g, l[0].Len)})
	}
	return all
}
