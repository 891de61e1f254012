package knife_test

import (
	"math"
	"math/big"
	"math/rand"
	"slices"

	"parcener/api"
)

const top = api.MaxRatio

// r writes a ratio short.
func r(num, den int64) api.Ratio { return api.Ratio{Num: num, Den: den} }

// span writes a span short.
func span(from, to api.Ratio) api.Span { return api.Span{From: from, To: to} }

// flat returns a cake with one density.
func flat(length, density int) api.Cake {
	return api.Cake{Len: length, Cuts: []int{0, length}, Dens: []int{density}}
}

// steps returns a cake with a density for each whole number.
func steps(densities ...int) api.Cake {
	c := api.Cake{Len: len(densities), Dens: densities}
	for at := range c.Len + 1 {
		c.Cuts = append(c.Cuts, at)
	}
	return c
}

// example returns the cakes of the chapter's example of one knife.
func example() []api.Cake {
	return []api.Cake{
		flat(6, 1),
		{Len: 6, Cuts: []int{0, 4, 6}, Dens: []int{1, 4}},
		{Len: 6, Cuts: []int{0, 2, 6}, Dens: []int{2, 0}},
	}
}

// alike returns cakes of n agents who agree about it, each in numbers of its own.
func alike(n int) []api.Cake {
	var l []api.Cake
	for agent := range n {
		l = append(l, flat(n, agent+1))
	}
	return l
}

// wanting returns cakes of as many agents as the length, each of whom wants what lies behind one whole number alone.
func wanting(places ...int) []api.Cake {
	var l []api.Cake
	for _, place := range places {
		c := steps(make([]int, len(places))...)
		c.Dens[place] = 1
		l = append(l, c)
	}
	return l
}

// marked returns the query of a mark, with its answer.
func marked(agent int, a, v, answer api.Ratio) api.Query {
	return api.Query{Agent: agent, Kind: api.AskMark, A: a, B: v, Answer: answer}
}

// sameDivision reports whether two divisions have the same pieces.
func sameDivision(a, b api.Division) bool { return slices.EqualFunc(a.Pieces, b.Pieces, slices.Equal) }

// flawed is cakes that are not those of a desk, and the error of it.
type flawed struct {
	l []api.Cake
	e api.Errno
}

// badCakes returns cakes that are not valid, and the error of each.
func badCakes() []flawed {
	var l []flawed
	put := func(e api.Errno, c api.Cake) { l = append(l, flawed{[]api.Cake{c}, e}) }
	put(api.ErrBad, api.Cake{})
	put(api.ErrBad, api.Cake{Len: 2})
	put(api.ErrBad, steps(0, 0))
	put(api.ErrBad, flat(2, api.MaxDens+1))
	put(api.ErrBad, flat(2, -1))
	put(api.ErrBad, flat(0, 1))
	put(api.ErrBad, flat(-2, 1))
	put(api.ErrBad, api.Cake{Len: 2, Cuts: []int{0, 1}, Dens: []int{1}})
	put(api.ErrBad, api.Cake{Len: 2, Cuts: []int{1, 2}, Dens: []int{1}})
	put(api.ErrBad, api.Cake{Len: 2, Cuts: []int{0, 2}, Dens: []int{1, 1}})
	put(api.ErrBad, api.Cake{Len: 2, Cuts: []int{0, 2, 1, 2}, Dens: []int{1, 1, 1}})
	put(api.ErrBad, api.Cake{Len: math.MinInt, Cuts: []int{0, math.MinInt}, Dens: []int{1}})
	put(api.ErrMany, flat(api.MaxLen+1, 1))
	put(api.ErrMany, steps(slices.Repeat([]int{1}, api.MaxCuts)...))
	put(api.ErrMany, flat(math.MaxInt, 0))
	return l
}

// badPairs returns two cakes each that are not those of a desk: the error is that of the first bad one, and that of two lengths comes last.
func badPairs() []flawed {
	right := flat(2, 1)
	var l []flawed
	for _, f := range badCakes() {
		for _, c := range []api.Cake{right, flat(3, 1), steps(0, 1)} {
			l = append(l, flawed{[]api.Cake{f.l[0], c}, f.e}, flawed{[]api.Cake{c, f.l[0]}, f.e})
		}
		for _, g := range badCakes() {
			l = append(l, flawed{[]api.Cake{f.l[0], g.l[0]}, f.e})
		}
	}
	for _, other := range []api.Cake{flat(3, 1), flat(1, 1), steps(0, 1, 1), flat(api.MaxLen, api.MaxDens)} {
		for _, c := range []api.Cake{right, steps(0, 1), steps(1, 0)} {
			l = append(l, flawed{[]api.Cake{c, other}, api.ErrBad}, flawed{[]api.Cake{other, c}, api.ErrBad})
		}
	}
	return l
}

// badDesks returns cakes of any number of agents that are not those of a desk.
func badDesks() []flawed {
	right := flat(2, 1)
	l := []flawed{
		{nil, api.ErrBad},
		{[]api.Cake{}, api.ErrBad},
		{[]api.Cake{right, right, flat(3, 1)}, api.ErrBad},
		{[]api.Cake{right, flat(3, 1), flat(api.MaxLen+1, 1)}, api.ErrMany},
		{slices.Repeat([]api.Cake{right}, api.MaxAgents+1), api.ErrMany},
		{make([]api.Cake, api.MaxAgents+1), api.ErrMany},
		{make([]api.Cake, 3000), api.ErrMany},
		{make([]api.Cake, api.MaxAgents), api.ErrBad},
	}
	l = append(l, badCakes()...)
	return append(l, badPairs()...)
}

// noPoints returns ratios that are no points of a cake of a length.
func noPoints(length int64) []api.Ratio {
	return []api.Ratio{
		{}, r(0, 2), r(0, -1), r(1, 0), r(-1, -1), r(2, 4), r(1, -2), r(length+1, 1), r(-1, 1), r(-1, top), r(-top, 1), r(top, 1), r(top+1, top+2), r(1, top+1),
		r(1000*length+1, 1000), r(math.MinInt64, math.MinInt64), r(math.MaxInt64, 1), r(math.MinInt64, 1), r(1, math.MinInt64), r(1, math.MaxInt64),
	}
}

// rat returns a as a number of any size.
func rat(a api.Ratio) *big.Rat { return big.NewRat(a.Num, a.Den) }

// number returns n as a number of any size.
func number(n int) *big.Rat { return big.NewRat(int64(n), 1) }

// ratioOf returns the ratio of x, which has one.
func ratioOf(x *big.Rat) api.Ratio { return r(x.Num().Int64(), x.Denom().Int64()) }

// fraction returns m / k of x.
func fraction(x *big.Rat, m, k int) *big.Rat {
	return new(big.Rat).Mul(x, big.NewRat(int64(m), int64(k)))
}

// minus returns a - b.
func minus(a, b *big.Rat) *big.Rat { return new(big.Rat).Sub(a, b) }

// between returns the value between two points.
func between(c api.Cake, a, b *big.Rat) *big.Rat {
	sum := new(big.Rat)
	for i, d := range c.Dens {
		from, to := number(c.Cuts[i]), number(c.Cuts[i+1])
		if a.Cmp(from) > 0 {
			from = a
		}
		if b.Cmp(to) < 0 {
			to = b
		}
		if from.Cmp(to) < 0 {
			length := minus(to, from)
			sum.Add(sum, length.Mul(length, number(d)))
		}
	}
	return sum
}

// reaching returns the least point up to which the value from a on is v, which is greater than 0, or nil if there is none.
func reaching(c api.Cake, a, v *big.Rat) *big.Rat {
	for i, d := range c.Dens {
		from, to := number(c.Cuts[i]), number(c.Cuts[i+1])
		if a.Cmp(from) > 0 {
			from = a
		}
		if d > 0 && between(c, a, to).Cmp(v) >= 0 {
			rest := minus(v, between(c, a, from))
			return rest.Quo(rest, number(d)).Add(rest, from)
		}
	}
	return nil
}

// totalOf returns the total of a cake.
func totalOf(c api.Cake) *big.Rat { return between(c, new(big.Rat), number(c.Len)) }

// halfTotal returns half of the total of a cake.
func halfTotal(c api.Cake) *big.Rat { return fraction(totalOf(c), 1, 2) }

// otherKnife returns the other knife of a cake for a point, or nil if there is none.
func otherKnife(a api.Cake, from *big.Rat) *big.Rat { return reaching(a, from, halfTotal(a)) }

// gapAt returns the gap of two cakes for a point for which there is another knife.
func gapAt(a, b api.Cake, from *big.Rat) *big.Rat {
	return minus(between(b, from, otherKnife(a, from)), halfTotal(b))
}

// ran is how one knife must divide cakes: the spans of the agents, their order, and all queries.
type ran struct {
	l     []api.Cake
	spans []api.Span
	order []int
	log   []api.Query
}

// division returns the division of spans.
func (c ran) division() api.Division {
	var d api.Division
	for _, s := range c.spans {
		d.Pieces = append(d.Pieces, []api.Span{s})
	}
	return d
}

// moved moves one knife over some cakes, as the definitions tell it, in numbers of any size.
func moved(l []api.Cake) ran {
	c := ran{l: l, spans: make([]api.Span, len(l))}
	at := new(big.Rat)
	for len(c.order) < len(l)-1 {
		first, end := -1, new(big.Rat)
		for agent := range l {
			if slices.Contains(c.order, agent) {
				continue
			}
			share := fraction(totalOf(l[agent]), 1, len(l))
			mark := reaching(l[agent], at, share)
			c.log = append(c.log, marked(agent, ratioOf(at), ratioOf(share), ratioOf(mark)))
			if first < 0 || mark.Cmp(end) < 0 {
				first, end = agent, mark
			}
		}
		c.order, c.spans[first] = append(c.order, first), span(ratioOf(at), ratioOf(end))
		at = end
	}
	for agent := range l {
		if !slices.Contains(c.order, agent) {
			c.order, c.spans[agent] = append(c.order, agent), span(ratioOf(at), r(int64(l[0].Len), 1))
			break
		}
	}
	return c
}

// densityBehind returns the density behind a point before the end.
func densityBehind(c api.Cake, at *big.Rat) int {
	i := 0
	for number(c.Cuts[i+1]).Cmp(at) <= 0 {
		i++
	}
	return c.Dens[i]
}

// wayToCut returns how far it is from a point before the end to the next cut of one of two cakes.
func wayToCut(a, b api.Cake, at *big.Rat) *big.Rat {
	next := number(a.Len)
	for _, cut := range slices.Concat(a.Cuts, b.Cuts) {
		if c := number(cut); c.Cmp(at) > 0 && c.Cmp(next) < 0 {
			next = c
		}
	}
	return minus(next, at)
}

// walked moves two knives over two hungry cakes from one cut to the next, and returns where the gap is 0 first.
func walked(a, b api.Cake) api.Span {
	x := new(big.Rat)
	y := otherKnife(a, x)
	gap := gapAt(a, b, x)
	for gap.Sign() != 0 {
		speed := big.NewRat(int64(densityBehind(a, x)), int64(densityBehind(a, y)))
		way := wayToCut(a, b, x)
		if other := new(big.Rat).Quo(wayToCut(a, b, y), speed); other.Cmp(way) < 0 {
			way = other
		}
		change := new(big.Rat).Mul(speed, number(densityBehind(b, y)))
		change.Sub(change, number(densityBehind(b, x)))
		if change.Sign() != 0 {
			zero := new(big.Rat).Quo(gap, change)
			if zero.Neg(zero); zero.Sign() > 0 && zero.Cmp(way) < 0 {
				way = zero
			}
		}
		x = new(big.Rat).Add(x, way)
		y = new(big.Rat).Add(y, new(big.Rat).Mul(way, speed))
		gap = new(big.Rat).Add(gap, change.Mul(change, way))
	}
	return span(ratioOf(x), ratioOf(y))
}

// randomCake returns a valid cake of a length, with densities from least on.
func randomCake(g *rand.Rand, length, least int) api.Cake {
	c := api.Cake{Len: length}
	step := 1 + length/8
	if g.Intn(4) == 0 {
		step = 1 + length/38
	}
	for at := 0; at < length; at += g.Intn(step) + 1 {
		c.Cuts = append(c.Cuts, at)
		c.Dens = append(c.Dens, max(least, g.Intn(3)*g.Intn(7)))
	}
	c.Cuts = append(c.Cuts, length)
	if len(c.Cuts) > api.MaxCuts {
		return flat(length, g.Intn(api.MaxDens)+1)
	}
	c.Dens[g.Intn(len(c.Dens))] = g.Intn(api.MaxDens) + 1
	return c
}

// narrow returns a cake that has a density between two whole numbers alone.
func narrow(length, from, to, density int) api.Cake {
	c := api.Cake{Len: length, Cuts: []int{from, to}, Dens: []int{density}}
	if from > 0 {
		c.Cuts, c.Dens = slices.Insert(c.Cuts, 0, 0), slices.Insert(c.Dens, 0, 0)
	}
	if to < length {
		c.Cuts, c.Dens = append(c.Cuts, length), append(c.Dens, 0)
	}
	return c
}

// randomLength returns the length of a random cake, often a short one.
func randomLength(g *rand.Rand) int {
	if g.Intn(8) == 0 {
		return g.Intn(api.MaxLen) + 1
	}
	return g.Intn(14) + 1
}

// parties returns random cakes of agents, the same ones each time: some agents agree about the cake, or give nothing to most of it.
func parties() [][]api.Cake {
	g := rand.New(rand.NewSource(11))
	var all [][]api.Cake
	for range 2500 {
		length := randomLength(g)
		var l []api.Cake
		for agent := range g.Intn(api.MaxAgents) + 1 {
			switch {
			case agent > 0 && g.Intn(5) == 0:
				l = append(l, l[g.Intn(agent)])
			case g.Intn(4) == 0:
				from := g.Intn(length)
				l = append(l, narrow(length, from, from+1, g.Intn(api.MaxDens)+1))
			default:
				l = append(l, randomCake(g, length, 0))
			}
		}
		all = append(all, l)
	}
	return all
}

// pairs returns random pairs of cakes of the same length, the same ones each time, with densities from least on.
func pairs(least int) [][2]api.Cake {
	g := rand.New(rand.NewSource(12))
	var all [][2]api.Cake
	for range 2000 {
		length := randomLength(g)
		pair := [2]api.Cake{randomCake(g, length, least), randomCake(g, length, least)}
		if g.Intn(10) == 0 {
			pair[g.Intn(2)] = flat(length, g.Intn(api.MaxDens)+1)
		}
		all = append(all, pair)
	}
	return all
}

// longest returns two hungry cakes with as many cuts, and as different densities, as there may be.
func longest() [2]api.Cake {
	c := api.Cake{Len: api.MaxLen}
	for i := range api.MaxCuts - 1 {
		c.Cuts = append(c.Cuts, 23*i)
		c.Dens = append(c.Dens, 1+7*i%api.MaxDens)
	}
	c.Cuts = append(c.Cuts, api.MaxLen)
	d := api.Cake{Len: api.MaxLen, Cuts: slices.Clone(c.Cuts), Dens: slices.Clone(c.Dens)}
	for i := range d.Dens {
		d.Cuts[i] += min(i, 1)
		d.Dens[i] = 1 + 5*i%11
	}
	return [2]api.Cake{c, d}
}
