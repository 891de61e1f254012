package triple_test

import (
	"math"
	"math/big"
	"math/rand"
	"slices"

	"parcener/api"
	"parcener/cake"
)

// r writes a ratio short.
func r(num, den int64) api.Ratio { return api.Ratio{Num: num, Den: den} }

// span writes a span short.
func span(from, to api.Ratio) api.Span { return api.Span{From: from, To: to} }

// flat returns a cake with one density.
func flat(length, density int) api.Cake {
	return api.Cake{Len: length, Cuts: []int{0, length}, Dens: []int{density}}
}

// steps returns a cake with a density for each whole number.
func steps(densities ...int) api.Cake {
	c := api.Cake{Len: len(densities), Dens: densities}
	for at := range c.Len + 1 {
		c.Cuts = append(c.Cuts, at)
	}
	return c
}

// example returns the cakes of the chapter's example.
func example() []api.Cake {
	return []api.Cake{
		flat(6, 1),
		{Len: 6, Cuts: []int{0, 4, 6}, Dens: []int{1, 4}},
		{Len: 6, Cuts: []int{0, 2, 6}, Dens: []int{2, 0}},
	}
}

// told returns the query of a value, with its answer.
func told(agent int, a, b, answer api.Ratio) api.Query {
	return api.Query{Agent: agent, Kind: api.AskValue, A: a, B: b, Answer: answer}
}

// marked returns the query of a mark, with its answer.
func marked(agent int, a, v, answer api.Ratio) api.Query {
	return api.Query{Agent: agent, Kind: api.AskMark, A: a, B: v, Answer: answer}
}

// filled returns a log of so many queries, all of which are right for no cakes.
func filled(many int) []api.Query {
	strange := []api.Query{{}, {Agent: -1, Kind: 255}, told(0, r(0, 1), r(0, 1), r(0, 7)), marked(math.MaxInt, r(1, 0), r(-1, -1), r(5, 5))}
	var l []api.Query
	for i := range many {
		l = append(l, strange[i%len(strange)])
	}
	return l
}

// sameDesk reports whether two desks have the same cakes and logs.
func sameDesk(a, b api.Desk) bool {
	return slices.EqualFunc(a.Cakes, b.Cakes, cake.Same) && slices.Equal(a.Log, b.Log)
}

// sameDivision reports whether two divisions have the same pieces.
func sameDivision(a, b api.Division) bool { return slices.EqualFunc(a.Pieces, b.Pieces, slices.Equal) }

// flawed is a desk that has no first part, and the error of it.
type flawed struct {
	d api.Desk
	e api.Errno
}

// badCakes returns cakes that are not those of a desk, and the error of it.
func badCakes() []flawed {
	many, bad := api.ErrMany, api.ErrBad
	no, long, right := api.Cake{}, flat(api.MaxLen+1, 1), flat(2, 1)
	var l []flawed
	put := func(e api.Errno, cakes ...api.Cake) { l = append(l, flawed{api.Desk{Cakes: cakes}, e}) }
	put(bad)
	put(bad, no)
	put(bad, right, no)
	put(bad, right, right, no)
	put(bad, no, long, right)
	put(bad, right, right, flat(3, 1))
	put(bad, right, steps(0, 0), right)
	put(bad, right, right, flat(2, api.MaxDens+1))
	put(many, long)
	put(many, long, no, right)
	put(many, right, flat(3, 1), long)
	put(many, slices.Repeat([]api.Cake{right}, api.MaxAgents+1)...)
	put(many, make([]api.Cake, 3000)...)
	return append(l, flawed{api.Desk{Cakes: []api.Cake{}, Log: []api.Query{}}, bad})
}

// otherNumbers returns the cakes of any number of agents but three.
func otherNumbers() [][]api.Cake {
	var all [][]api.Cake
	for _, n := range []int{1, 2, 4, 5, api.MaxAgents} {
		all = append(all, slices.Repeat([]api.Cake{flat(2, 1)}, n), slices.Repeat([]api.Cake{steps(0, 3, 1)}, n))
	}
	return all
}

// badDesks returns desks that break each part of the definition, and desks without just three agents.
func badDesks() []flawed {
	l := []flawed{{api.Desk{Cakes: example(), Log: filled(api.MaxQuery + 1)}, api.ErrMany}}
	for _, f := range badCakes() {
		l = append(l, f, flawed{api.Desk{Cakes: f.d.Cakes, Log: filled(7)}, f.e}, flawed{api.Desk{Cakes: f.d.Cakes, Log: filled(api.MaxQuery + 1)}, api.ErrMany})
	}
	for _, cakes := range otherNumbers() {
		for _, many := range []int{0, 7, api.MaxQuery - 1, api.MaxQuery} {
			l = append(l, flawed{api.Desk{Cakes: cakes, Log: filled(many)}, api.ErrArg})
		}
		l = append(l, flawed{api.Desk{Cakes: cakes, Log: filled(api.MaxQuery + 1)}, api.ErrMany})
	}
	return l
}

// rat returns a as a number of any size.
func rat(a api.Ratio) *big.Rat { return big.NewRat(a.Num, a.Den) }

// ratioOf returns the ratio of x, which has one.
func ratioOf(x *big.Rat) api.Ratio { return r(x.Num().Int64(), x.Denom().Int64()) }

// fraction returns m / k of x.
func fraction(x *big.Rat, m, k int) *big.Rat {
	return new(big.Rat).Mul(x, big.NewRat(int64(m), int64(k)))
}

// between returns the value between two points.
func between(c api.Cake, a, b *big.Rat) *big.Rat {
	sum := new(big.Rat)
	for i, d := range c.Dens {
		from, to := big.NewRat(int64(c.Cuts[i]), 1), big.NewRat(int64(c.Cuts[i+1]), 1)
		if a.Cmp(from) > 0 {
			from = a
		}
		if b.Cmp(to) < 0 {
			to = b
		}
		if from.Cmp(to) < 0 {
			length := new(big.Rat).Sub(to, from)
			sum.Add(sum, length.Mul(length, big.NewRat(int64(d), 1)))
		}
	}
	return sum
}

// reaching returns the least point up to which the value from a on is v, which is at most that up to the end.
func reaching(c api.Cake, a, v *big.Rat) *big.Rat {
	if v.Sign() == 0 {
		return a
	}
	for i, d := range c.Dens {
		from, to := big.NewRat(int64(c.Cuts[i]), 1), big.NewRat(int64(c.Cuts[i+1]), 1)
		if a.Cmp(from) > 0 {
			from = a
		}
		if d > 0 && between(c, a, to).Cmp(v) >= 0 {
			rest := new(big.Rat).Sub(v, between(c, a, from))
			return rest.Quo(rest, big.NewRat(int64(d), 1)).Add(rest, from)
		}
	}
	return nil
}

// totalOf returns the total of a cake.
func totalOf(c api.Cake) *big.Rat { return between(c, new(big.Rat), big.NewRat(int64(c.Len), 1)) }

// worthOf returns what a span is worth for an agent.
func worthOf(c api.Cake, s api.Span) *big.Rat { return between(c, rat(s.From), rat(s.To)) }

// ranked returns the places of a list from the greatest number on, those of the same number as they are.
func ranked(l []*big.Rat) []int {
	var places []int
	for k := range l {
		places = append(places, k)
	}
	slices.SortStableFunc(places, func(a, b int) int { return l[b].Cmp(l[a]) })
	return places
}

// firstLeft returns the first one of some places that is not taken.
func firstLeft(places []int, taken ...int) int {
	for _, k := range places {
		if !slices.Contains(taken, k) {
			return k
		}
	}
	return -1
}

// office answers queries in numbers of any size, and keeps them.
type office struct {
	l   []api.Cake
	log []api.Query
}

// value asks an agent what a span is worth.
func (o *office) value(agent int, s api.Span) *big.Rat {
	v := worthOf(o.l[agent], s)
	o.log = append(o.log, told(agent, s.From, s.To, ratioOf(v)))
	return v
}

// mark asks an agent for the mark from a point for a value.
func (o *office) mark(agent int, from api.Ratio, v *big.Rat) api.Ratio {
	at := ratioOf(reaching(o.l[agent], rat(from), v))
	o.log = append(o.log, marked(agent, from, ratioOf(v), at))
	return at
}

// outcome is how a run must be: the result of its first part and how many queries that has, its division and all queries.
type outcome struct {
	s    api.Trimmed
	many int
	d    api.Division
	log  []api.Query
	// Which crumbs are taken by the agent with the trimmed piece, by the agent 0, and by who divided what is off.
	crumbs [3]int
}

// first does the first part, as the definitions tell it.
func (o *office) first() api.Trimmed {
	zero, end := r(0, 1), r(int64(o.l[0].Len), 1)
	total := totalOf(o.l[0])
	a, b := o.mark(0, zero, fraction(total, 1, 3)), o.mark(0, zero, fraction(total, 2, 3))
	s := api.Trimmed{Pieces: [3]api.Span{span(zero, a), span(a, b), span(b, end)}, Piece: -1}
	worth := []*big.Rat{o.value(1, s.Pieces[0]), o.value(1, s.Pieces[1]), worthOf(o.l[1], s.Pieces[2])}
	order := ranked(worth)
	if p, q := order[0], order[1]; worth[p].Cmp(worth[q]) > 0 {
		begin := s.Pieces[p].From
		at := o.mark(1, begin, new(big.Rat).Sub(worth[p], worth[q]))
		s.Piece, s.Off, s.Pieces[p].From = p, span(begin, at), at
	}
	var offered []*big.Rat
	for _, piece := range s.Pieces {
		offered = append(offered, o.value(2, piece))
	}
	taken := ranked(offered)[0]
	own := firstLeft(order, taken)
	if s.Piece >= 0 && s.Piece != taken {
		own = s.Piece
	}
	s.Of = [3]int{firstLeft([]int{0, 1, 2}, taken, own), own, taken}
	return s
}

// second does the second part, and returns the crumb of each agent, and which ones were taken.
func (o *office) second(s api.Trimmed) (of [3]api.Span, taken [3]int) {
	t := slices.Index(s.Of[:], s.Piece)
	n := 3 - t
	w := o.value(n, s.Off)
	a, b := o.mark(n, s.Off.From, fraction(w, 1, 3)), o.mark(n, s.Off.From, fraction(w, 2, 3))
	crumbs := []api.Span{span(s.Off.From, a), span(a, b), span(b, s.Off.To)}
	var offered []*big.Rat
	for _, crumb := range crumbs {
		offered = append(offered, o.value(t, crumb))
	}
	first := ranked(offered)[0]
	for k, crumb := range crumbs {
		offered[k] = big.NewRat(-1, 1)
		if k != first {
			offered[k] = o.value(0, crumb)
		}
	}
	second := ranked(offered)[0]
	last := firstLeft([]int{0, 1, 2}, first, second)
	of[t], of[0], of[n] = crumbs[first], crumbs[second], crumbs[last]
	return of, [3]int{first, second, last}
}

// run returns how a run must be.
func (o *office) run() outcome {
	want := outcome{s: o.first()}
	want.many = len(o.log)
	var crumbs [3]api.Span
	if want.s.Piece >= 0 {
		crumbs, want.crumbs = o.second(want.s)
	}
	for agent := range 3 {
		want.d.Pieces = append(want.d.Pieces, joined(want.s.Pieces[want.s.Of[agent]], crumbs[agent]))
	}
	want.log = o.log
	return want
}

// joined returns the piece of two spans that have no points in common, each of which may be empty.
func joined(a, b api.Span) []api.Span {
	switch {
	case a.From == a.To && b.From == b.To:
		return nil
	case a.From == a.To:
		return []api.Span{b}
	case b.From == b.To:
		return []api.Span{a}
	case a.To == b.From:
		return []api.Span{span(a.From, b.To)}
	case b.To == a.From:
		return []api.Span{span(b.From, a.To)}
	case rat(a.From).Cmp(rat(b.From)) < 0:
		return []api.Span{a, b}
	}
	return []api.Span{b, a}
}

// wanted returns how a run of some cakes must be, in numbers of any size.
func wanted(l []api.Cake) outcome { return (&office{l: l}).run() }

// randomCake returns a valid cake of a length.
func randomCake(g *rand.Rand, length int) api.Cake {
	c := api.Cake{Len: length}
	step := 1 + length/8
	for at := 0; at < length; at += g.Intn(step) + 1 {
		c.Cuts = append(c.Cuts, at)
		c.Dens = append(c.Dens, g.Intn(3)*g.Intn(7))
	}
	c.Cuts = append(c.Cuts, length)
	if len(c.Cuts) > api.MaxCuts {
		return flat(length, g.Intn(api.MaxDens)+1)
	}
	c.Dens[g.Intn(len(c.Dens))] = g.Intn(api.MaxDens) + 1
	return c
}

// narrow returns a cake that has a density between two whole numbers alone.
func narrow(length, from, to, density int) api.Cake {
	c := api.Cake{Len: length, Cuts: []int{from, to}, Dens: []int{density}}
	if from > 0 {
		c.Cuts, c.Dens = slices.Insert(c.Cuts, 0, 0), slices.Insert(c.Dens, 0, 0)
	}
	if to < length {
		c.Cuts, c.Dens = append(c.Cuts, length), append(c.Dens, 0)
	}
	return c
}

// parties returns random cakes of three agents, the same ones each time: some agents agree about the cake, or give nothing to most of it.
func parties() [][]api.Cake {
	g := rand.New(rand.NewSource(10))
	var all [][]api.Cake
	for i := range 3000 {
		length := g.Intn(14) + 1
		if i%20 == 0 {
			length = g.Intn(api.MaxLen) + 1
		}
		var l []api.Cake
		for agent := range 3 {
			switch {
			case agent > 0 && g.Intn(5) == 0:
				l = append(l, l[g.Intn(agent)])
			case g.Intn(5) == 0:
				from := g.Intn(length)
				l = append(l, narrow(length, from, from+1, g.Intn(api.MaxDens)+1))
			case g.Intn(6) == 0:
				l = append(l, flat(length, g.Intn(api.MaxDens)+1))
			default:
				l = append(l, randomCake(g, length))
			}
		}
		all = append(all, l)
	}
	return all
}
