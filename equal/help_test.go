package equal_test

import (
	"math"
	"math/big"
	"math/rand"
	"slices"

	"parcener/api"
)

const top = api.MaxRatio

// r writes a ratio short.
func r(num, den int64) api.Ratio { return api.Ratio{Num: num, Den: den} }

// span writes a span short.
func span(from, to api.Ratio) api.Span { return api.Span{From: from, To: to} }

// flat returns a cake with one density.
func flat(length, density int) api.Cake {
	return api.Cake{Len: length, Cuts: []int{0, length}, Dens: []int{density}}
}

// steps returns a cake with a density for each whole number.
func steps(densities ...int) api.Cake {
	c := api.Cake{Len: len(densities), Dens: densities}
	for at := range c.Len + 1 {
		c.Cuts = append(c.Cuts, at)
	}
	return c
}

// example returns the cakes of the chapter's example.
func example() []api.Cake {
	return []api.Cake{flat(4, 1), {Len: 4, Cuts: []int{0, 1, 4}, Dens: []int{3, 1}}}
}

// early returns a cake of the length 6, most of which lies in the beginning.
func early() api.Cake { return api.Cake{Len: 6, Cuts: []int{0, 2, 6}, Dens: []int{4, 1}} }

// alike returns cakes of n agents who agree about it, each in numbers of its own.
func alike(n int) []api.Cake {
	var l []api.Cake
	for agent := range n {
		l = append(l, flat(n, agent+1))
	}
	return l
}

// wanting returns cakes of as many agents as the length, each of whom wants what lies behind one whole number most.
func wanting(places ...int) []api.Cake {
	var l []api.Cake
	for _, place := range places {
		c := steps(slices.Repeat([]int{1}, len(places))...)
		c.Dens[place] = api.MaxDens
		l = append(l, c)
	}
	return l
}

// flawed is cakes that are not divided, and the error of it.
type flawed struct {
	l []api.Cake
	e api.Errno
}

// badCakes returns cakes that are not valid, and the error of each.
func badCakes() []flawed {
	var l []flawed
	put := func(e api.Errno, c api.Cake) { l = append(l, flawed{[]api.Cake{c}, e}) }
	put(api.ErrBad, api.Cake{})
	put(api.ErrBad, api.Cake{Len: 2})
	put(api.ErrBad, steps(0, 0))
	put(api.ErrBad, flat(2, api.MaxDens+1))
	put(api.ErrBad, flat(2, -1))
	put(api.ErrBad, flat(0, 1))
	put(api.ErrBad, flat(-2, 1))
	put(api.ErrBad, api.Cake{Len: 2, Cuts: []int{0, 1}, Dens: []int{1}})
	put(api.ErrBad, api.Cake{Len: 2, Cuts: []int{1, 2}, Dens: []int{1}})
	put(api.ErrBad, api.Cake{Len: 2, Cuts: []int{0, 2}, Dens: []int{1, 1}})
	put(api.ErrBad, api.Cake{Len: 2, Cuts: []int{0, 2, 1, 2}, Dens: []int{1, 1, 1}})
	put(api.ErrBad, api.Cake{Len: math.MinInt, Cuts: []int{0, math.MinInt}, Dens: []int{1}})
	put(api.ErrMany, flat(api.MaxLen+1, 1))
	put(api.ErrMany, steps(slices.Repeat([]int{1}, api.MaxCuts)...))
	put(api.ErrMany, flat(math.MaxInt, 0))
	return l
}

// badDesks returns cakes that are not those of a desk, alone, among others, and among more than can be divided.
func badDesks() []flawed {
	right, sated := flat(2, 1), steps(0, 1)
	l := []flawed{
		{nil, api.ErrBad},
		{[]api.Cake{}, api.ErrBad},
		{[]api.Cake{right, flat(3, 1)}, api.ErrBad},
		{[]api.Cake{sated, flat(3, 1)}, api.ErrBad},
		{[]api.Cake{right, right, right, right, flat(1, 1)}, api.ErrBad},
		{[]api.Cake{right, flat(3, 1), flat(api.MaxLen+1, 1)}, api.ErrMany},
		{make([]api.Cake, api.MaxAgents), api.ErrBad},
		{slices.Repeat([]api.Cake{right}, api.MaxAgents+1), api.ErrMany},
		{make([]api.Cake, api.MaxAgents+1), api.ErrMany},
		{make([]api.Cake, 3000), api.ErrMany},
	}
	for _, f := range badCakes() {
		bad := f.l[0]
		for _, cakes := range [][]api.Cake{{bad}, {bad, right}, {right, bad}, {sated, bad, right}, {flat(3, 1), right, bad}, {right, right, right, right, bad, right}} {
			l = append(l, flawed{cakes, f.e})
		}
		for _, g := range badCakes() {
			l = append(l, flawed{[]api.Cake{bad, g.l[0]}, f.e})
		}
	}
	return l
}

// badLists returns cakes of desks that are not divided: more than MaxEqual, or not all hungry.
func badLists() []flawed {
	right := flat(3, 1)
	var l []flawed
	for n := api.MaxEqual + 1; n <= api.MaxAgents; n++ {
		for _, c := range []api.Cake{right, steps(0, 1, 1)} {
			l = append(l, flawed{slices.Repeat([]api.Cake{c}, n), api.ErrMany})
		}
	}
	for _, sated := range []api.Cake{steps(0, 1, 1), steps(1, 0, 1), steps(1, 1, 0), steps(0, 0, 5), steps(0, 7, 0)} {
		l = append(l, flawed{[]api.Cake{sated}, api.ErrArg}, flawed{[]api.Cake{sated, sated}, api.ErrArg})
		for n := range api.MaxEqual - 1 {
			for at := range n + 2 {
				l = append(l, flawed{slices.Insert(slices.Repeat([]api.Cake{right}, n+1), at, sated), api.ErrArg})
			}
		}
	}
	return l
}

// noOrders returns lists that are no orders of n agents.
func noOrders(n int) [][]int {
	l := [][]int{make([]int, n+1), make([]int, 1000), slices.Repeat([]int{-1}, n), slices.Repeat([]int{n}, n)}
	if n > 1 {
		l = append(l, make([]int, n), nil, []int{})
	}
	for _, order := range permutations(n) {
		l = append(l, order[:n-1], append(slices.Clone(order), n), append(slices.Clone(order), order[0]))
		for i := range order {
			for _, strange := range []int{-1, n, math.MinInt, math.MaxInt, order[(i+1)%n] + n, order[i] - n} {
				other := slices.Clone(order)
				other[i] = strange
				l = append(l, other)
			}
			if n > 1 {
				other := slices.Clone(order)
				other[i] = order[(i+1)%n]
				l = append(l, other)
			}
		}
	}
	return l
}

// noParts returns what is no valid ratio of at least 0.
func noParts() []api.Ratio {
	return []api.Ratio{
		{}, r(0, 2), r(0, -1), r(1, 0), r(-1, -1), r(2, 4), r(3, 3), r(1, -2), r(-1, 1), r(-1, 2), r(-1, top), r(-top, 1),
		r(top+1, top+2), r(1, top+1), r(top+1, 1), r(math.MinInt64, math.MinInt64), r(math.MaxInt64, 1), r(math.MinInt64, 1), r(1, math.MinInt64), r(1, math.MaxInt64),
	}
}

// permutations returns all orders of n agents, in the order of lists: the last agent of n is put everywhere into all orders of the others, and the result is sorted.
func permutations(n int) [][]int {
	if n == 0 {
		return [][]int{nil}
	}
	var l [][]int
	for _, order := range permutations(n - 1) {
		for at := range n {
			l = append(l, slices.Insert(slices.Clone(order), at, n-1))
		}
	}
	slices.SortFunc(l, slices.Compare)
	return l
}

// rat returns a as a number of any size.
func rat(a api.Ratio) *big.Rat { return big.NewRat(a.Num, a.Den) }

// number returns n as a number of any size.
func number(n int) *big.Rat { return big.NewRat(int64(n), 1) }

// ratioOf returns the ratio of x, which has one.
func ratioOf(x *big.Rat) api.Ratio { return r(x.Num().Int64(), x.Denom().Int64()) }

// minus returns a - b.
func minus(a, b *big.Rat) *big.Rat { return new(big.Rat).Sub(a, b) }

// times returns a * b.
func times(a, b *big.Rat) *big.Rat { return new(big.Rat).Mul(a, b) }

// between returns the value between two points.
func between(c api.Cake, a, b *big.Rat) *big.Rat {
	sum := new(big.Rat)
	for i, d := range c.Dens {
		from, to := number(c.Cuts[i]), number(c.Cuts[i+1])
		if a.Cmp(from) > 0 {
			from = a
		}
		if b.Cmp(to) < 0 {
			to = b
		}
		if from.Cmp(to) < 0 {
			sum.Add(sum, times(minus(to, from), number(d)))
		}
	}
	return sum
}

// reaching returns the point of a hungry cake up to which the value from a on is v, or nil if there is none.
func reaching(c api.Cake, a, v *big.Rat) *big.Rat {
	v = new(big.Rat).Add(v, between(c, new(big.Rat), a))
	for i, d := range c.Dens {
		if between(c, new(big.Rat), number(c.Cuts[i+1])).Cmp(v) >= 0 {
			rest := minus(v, between(c, new(big.Rat), number(c.Cuts[i])))
			return rest.Quo(rest, number(d)).Add(rest, number(c.Cuts[i]))
		}
	}
	return nil
}

// totalOf returns the total of a cake.
func totalOf(c api.Cake) *big.Rat { return between(c, new(big.Rat), number(c.Len)) }

// endsFor returns the ends for an order and a part, as the definitions tell them, in numbers of any size, or nil if there are none.
func endsFor(l []api.Cake, order []int, q *big.Rat) []*big.Rat {
	var ends []*big.Rat
	from := new(big.Rat)
	for _, agent := range order {
		to := reaching(l[agent], from, times(q, totalOf(l[agent])))
		if to == nil {
			return nil
		}
		ends, from = append(ends, to), to
	}
	return ends
}

// divided is how cakes must be divided in an order: its part, and the ends.
type divided struct {
	l     []api.Cake
	order []int
	q     api.Ratio
	ends  []api.Ratio
}

// division returns the division with the ends.
func (c divided) division() api.Division {
	d := api.Division{Pieces: make([][]api.Span, len(c.l))}
	from := r(0, 1)
	for i, agent := range c.order {
		d.Pieces[agent] = []api.Span{span(from, c.ends[i])}
		from = c.ends[i]
	}
	return d
}

// sameDivision reports whether two divisions have the same pieces.
func sameDivision(a, b api.Division) bool { return slices.EqualFunc(a.Pieces, b.Pieces, slices.Equal) }

// randomCake returns a hungry cake of a length.
func randomCake(g *rand.Rand, length int) api.Cake {
	c := api.Cake{Len: length}
	step := 1 + length/6
	if g.Intn(5) == 0 {
		step = 1 + length/38
	}
	for at := 0; at < length; at += g.Intn(step) + 1 {
		c.Cuts = append(c.Cuts, at)
		c.Dens = append(c.Dens, max(1, g.Intn(3)*g.Intn(7)))
	}
	c.Cuts = append(c.Cuts, length)
	if len(c.Cuts) > api.MaxCuts {
		return flat(length, g.Intn(api.MaxDens)+1)
	}
	return c
}

// parties returns random lists of hungry cakes, the same ones each time: some agents agree about the cake.
func parties(many int) [][]api.Cake {
	g := rand.New(rand.NewSource(12))
	var all [][]api.Cake
	for range many {
		length := g.Intn(12) + 1
		if g.Intn(8) == 0 {
			length = g.Intn(api.MaxLen) + 1
		}
		var l []api.Cake
		for agent := range g.Intn(api.MaxEqual) + 1 {
			switch {
			case agent > 0 && g.Intn(5) == 0:
				l = append(l, l[g.Intn(agent)])
			case g.Intn(6) == 0:
				l = append(l, flat(length, g.Intn(api.MaxDens)+1))
			default:
				l = append(l, randomCake(g, length))
			}
		}
		all = append(all, l)
	}
	return all
}

// longest returns as many hungry cakes as there may be, with as many cuts as there may be, at places that differ, and with densities that make the numbers of ends great.
func longest() []api.Cake {
	var l []api.Cake
	for agent := range api.MaxEqual {
		c := api.Cake{Len: api.MaxLen}
		for i := range api.MaxCuts - 1 {
			c.Cuts = append(c.Cuts, 25*i+min(i, 1)*agent)
			c.Dens = append(c.Dens, api.MaxDens-(agent+1)*(i+agent)%6)
		}
		c.Cuts = append(c.Cuts, api.MaxLen)
		l = append(l, c)
	}
	return l
}

// steep returns hungry cakes on which all densities are as different as they can be: so the ends move at the most different speeds.
func steep() []api.Cake {
	var l []api.Cake
	for agent := range api.MaxEqual {
		c := api.Cake{Len: api.MaxLen}
		for i := range api.MaxCuts - 1 {
			c.Cuts = append(c.Cuts, 25*i+min(i, 1)*3*agent)
			c.Dens = append(c.Dens, 1+(i+agent)%2*(api.MaxDens-1))
		}
		c.Cuts = append(c.Cuts, api.MaxLen)
		l = append(l, c)
	}
	return l
}
