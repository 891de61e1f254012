package goods_test

import (
	"math"
	"math/rand"
	"slices"

	"parcener/api"
)

// judged is an allocation, and what must be found for it.
type judged struct {
	g      api.Goods
	a      []int
	values [][]int
	pairs  [][2]int
	poor   []int
}

// list returns n times a number.
func list(n, x int) []int { return slices.Repeat([]int{x}, n) }

// counted returns the numbers from 0 to n - 1.
func counted(n int) []int {
	var l []int
	for i := range n {
		l = append(l, i)
	}
	return l
}

// changed returns a list with one element changed to x.
func changed(l []int, i, x int) []int { return slices.Replace(slices.Clone(l), i, i+1, x) }

// copied returns a copy of some lists.
func copied(v [][]int) [][]int {
	var l [][]int
	for _, row := range v {
		l = append(l, slices.Clone(row))
	}
	return l
}

// sameLists reports whether two lists of lists have the same numbers.
func sameLists(a, b [][]int) bool { return slices.EqualFunc(a, b, slices.Equal) }

// goodsOf returns the goods with some values.
func goodsOf(values ...[]int) api.Goods { return api.Goods{V: values} }

// alike returns so many goods of n agents who all give the same value to each.
func alike(n, many, worth int) api.Goods {
	var g api.Goods
	for range n {
		g.V = append(g.V, list(many, worth))
	}
	return g
}

// total returns the sum of some numbers.
func total(l []int) int {
	sum := 0
	for _, x := range l {
		sum += x
	}
	return sum
}

// valuesIn returns the values of all bundles for all agents, as the definitions tell it.
func valuesIn(g api.Goods, a []int) [][]int {
	var worth [][]int
	for _, values := range g.V {
		row := list(len(g.V), 0)
		for good, agent := range a {
			if agent >= 0 {
				row[agent] += values[good]
			}
		}
		worth = append(worth, row)
	}
	return worth
}

// judge returns an allocation with all that must be found for it, as the definitions tell it.
func judge(g api.Goods, a []int) judged {
	j := judged{g: g, a: a, values: valuesIn(g, a)}
	n := len(g.V)
	for i, row := range j.values {
		for k := range row {
			if row[k] > row[i] {
				j.pairs = append(j.pairs, [2]int{i, k})
			}
		}
		if n*row[i] < total(g.V[i]) {
			j.poor = append(j.poor, i)
		}
	}
	return j
}

// isComplete reports whether each good has an agent.
func (j judged) isComplete() bool { return !slices.Contains(j.a, -1) }

// lists returns all lists of n numbers from least to most, in the order of lists.
func lists(n, least, most int) [][]int {
	if n == 0 {
		return [][]int{nil}
	}
	var l [][]int
	for x := least; x <= most; x++ {
		for _, rest := range lists(n-1, least, most) {
			l = append(l, append([]int{x}, rest...))
		}
	}
	return l
}

// orders returns all lists with each of n agents once.
func orders(n int) [][]int {
	return slices.DeleteFunc(lists(n, 0, n-1), func(order []int) bool {
		return slices.ContainsFunc(counted(n), func(agent int) bool { return !slices.Contains(order, agent) })
	})
}

// smallGoods returns all goods of up to two agents and up to two goods with values up to most, and some of up to three agents and four goods.
func smallGoods(most int) []api.Goods {
	var all []api.Goods
	for many := range 3 {
		for _, first := range lists(many, 0, most) {
			all = append(all, goodsOf(first))
			for _, second := range lists(many, 0, most) {
				all = append(all, goodsOf(first, second))
			}
		}
	}
	r := rand.New(rand.NewSource(23))
	for range 60 {
		g := api.Goods{}
		many := r.Intn(3) + 2
		for range r.Intn(2) + 2 {
			g.V = append(g.V, randomValues(r, many, most))
		}
		all = append(all, g)
	}
	return all
}

// randomValues returns so many values up to most.
func randomValues(r *rand.Rand, many, most int) []int {
	var l []int
	for range many {
		l = append(l, r.Intn(most+1))
	}
	return l
}

// randomGoods returns goods: with few values or many, with agents that want the same, and with nothing wanted.
func randomGoods(r *rand.Rand) api.Goods {
	n, many := r.Intn(api.MaxAgents)+1, r.Intn(api.MaxGoods+1)
	most := []int{1, 2, 5, 30, api.MaxValue}[r.Intn(5)]
	g := alike(n, many, 0)
	for agent := range g.V {
		switch r.Intn(8) {
		case 0:
			g.V[agent] = slices.Clone(g.V[r.Intn(n)])
		case 1:
			g.V[agent] = list(many, r.Intn(2)*api.MaxValue)
		default:
			g.V[agent] = randomValues(r, many, most)
		}
	}
	return g
}

// randomAllocation returns an allocation of some goods: any one, one with few goods that nobody gets, a complete one, or one in which each good goes to an agent that gives the most to it.
func randomAllocation(r *rand.Rand, g api.Goods) []int {
	kind := r.Intn(4)
	var a []int
	for good := range g.V[0] {
		agent := r.Intn(len(g.V))
		if kind == 0 {
			agent = r.Intn(len(g.V)+1) - 1
		} else if kind == 1 && r.Intn(8) == 0 {
			agent = -1
		} else if kind == 3 {
			for other, values := range g.V {
				if values[good] > g.V[agent][good] {
					agent = other
				}
			}
		}
		a = append(a, agent)
	}
	return a
}

// samples returns random allocations, the same ones each time, and those of the cases, with what must be found for them.
func samples(many int) []judged {
	r := rand.New(rand.NewSource(24))
	all := cases()
	for range many {
		g := randomGoods(r)
		all = append(all, judge(g, randomAllocation(r, g)))
	}
	return all
}

// smallAllocations returns all allocations of small goods, with what must be found for them.
func smallAllocations() []judged {
	var all []judged
	for _, g := range smallGoods(3) {
		for _, a := range lists(len(g.V[0]), -1, len(g.V)-1) {
			all = append(all, judge(g, a))
		}
	}
	return all
}

// flawed is what are no valid goods, and the error of it.
type flawed struct {
	g api.Goods
	e api.Errno
}

// badGoods returns what are no valid goods: too many agents, or none, too many goods, and lists of values that are wrong, alone or with too many goods behind them.
func badGoods() []flawed {
	all := []flawed{
		{api.Goods{}, api.ErrBad},
		{alike(api.MaxAgents+1, 1, 1), api.ErrMany},
		{alike(api.MaxAgents+1, 0, 0), api.ErrMany},
		{alike(api.MaxAgents+1, 2, -1), api.ErrMany},
		{alike(2000, 2, 1), api.ErrMany},
		{alike(api.MaxAgents, api.MaxGoods+1, 1), api.ErrMany},
		{alike(1, 2000, 1), api.ErrMany},
	}
	for n := range api.MaxAgents {
		n++
		for agent := range n {
			for _, many := range []int{0, 1, 2, api.MaxGoods} {
				with := func(values []int, e api.Errno) {
					g := alike(n, many, 1)
					g.V[agent] = values
					all = append(all, flawed{g, e})
				}
				with(list(api.MaxGoods+1, 1), api.ErrMany)
				with(list(api.MaxGoods+1, -1), api.ErrMany)
				for good := range many {
					for _, strange := range []int{-1, api.MaxValue + 1, math.MinInt, math.MaxInt} {
						with(changed(list(many, 1), good, strange), api.ErrBad)
					}
				}
				if n > 1 && many > 0 {
					with(list(many-1, 1), api.ErrBad)
				}
				if n > 1 && many < api.MaxGoods {
					with(list(many+1, 1), api.ErrBad)
				}
			}
		}
	}
	late := alike(3, 2, -1)
	late.V[2] = list(api.MaxGoods+1, 1)
	return append(all, flawed{late, api.ErrMany})
}

// noAllocations returns lists that are no allocations of so many goods to n agents.
func noAllocations(n, many int) [][]int {
	l := [][]int{list(many+1, 0), list(many+1, -1), list(many+1000, 0)}
	if many > 0 {
		l = append(l, nil, list(many-1, 0), list(many, n), list(many, -2))
	}
	for good := range many {
		for _, strange := range []int{-2, n, n + 64, math.MinInt, math.MaxInt} {
			l = append(l, changed(list(many, n-1), good, strange), changed(list(many, -1), good, strange))
		}
	}
	return l
}

// noOrders returns lists that have not each of n agents once.
func noOrders(n int) [][]int {
	l := [][]int{nil, counted(n)[:n-1], counted(n + 1), append(counted(n), 0), append(counted(n), -1), list(n, -1), list(n, n), list(1000, 0)}
	for i := range n {
		for _, strange := range []int{-1, n, math.MinInt, math.MaxInt} {
			l = append(l, changed(counted(n), i, strange))
		}
		if n > 1 {
			l = append(l, changed(counted(n), i, (i+1)%n))
		}
	}
	return l
}
