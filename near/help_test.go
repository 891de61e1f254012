package near_test

import (
	"math"
	"math/rand"
	"slices"

	"parcener/api"
)

// judged is an allocation, and what must be found for it: the marks of One and the pairs that it misses, the marks of Any, and those of Share and the agents that it misses.
type judged struct {
	g        api.Goods
	a        []int
	one      []api.Mark
	pairs    [][2]int
	any      []api.Mark
	share    []api.Mark
	helpless []int
}

// list returns n times a number.
func list(n, x int) []int { return slices.Repeat([]int{x}, n) }

// upTo returns the numbers from 0 to n - 1.
func upTo(n int) []int {
	var l []int
	for i := range n {
		l = append(l, i)
	}
	return l
}

// changed returns a list with one element changed to x.
func changed(l []int, i, x int) []int { return slices.Replace(slices.Clone(l), i, i+1, x) }

// goodsOf returns the goods with some values.
func goodsOf(values ...[]int) api.Goods { return api.Goods{V: values} }

// alike returns so many goods of n agents who all give the same value to each.
func alike(n, many, worth int) api.Goods {
	var g api.Goods
	for range n {
		g.V = append(g.V, list(many, worth))
	}
	return g
}

// worth returns what the bundle of an agent is worth for one who gives some values to the goods.
func worth(values, a []int, agent int) int {
	sum := 0
	for good, owner := range a {
		if owner == agent {
			sum += values[good]
		}
	}
	return sum
}

// envies reports whether an agent would rather have the bundle of another one, of which a good is taken away (-1: none is).
func envies(g api.Goods, a []int, agent, other, away int) bool {
	rest := a
	if away >= 0 {
		rest = changed(a, away, -1)
	}
	return worth(g.V[agent], rest, other) > worth(g.V[agent], a, agent)
}

// isPoor reports whether an agent has less than its share of all goods.
func isPoor(g api.Goods, a []int, agent int) bool {
	all := worth(g.V[agent], list(len(a), 0), 0)
	return len(g.V)*worth(g.V[agent], a, agent) < all
}

// judge returns an allocation with all that must be found for it, as the definitions tell it.
func judge(g api.Goods, a []int) judged {
	j := judged{g: g, a: a}
	for agent := range g.V {
		for other := range g.V {
			if other != agent && envies(g, a, agent, other, -1) {
				j.judgeEnvy(agent, other)
			}
		}
		if isPoor(g, a, agent) {
			j.judgeShare(agent)
		}
	}
	return j
}

// judgeEnvy adds what must be found for an agent that envies another one.
func (j *judged) judgeEnvy(agent, other int) {
	var ending, not []int
	for good, owner := range j.a {
		switch {
		case owner != other:
		case envies(j.g, j.a, agent, other, good):
			not = append(not, good)
		default:
			ending = append(ending, good)
		}
	}
	if len(ending) > 0 {
		j.one = append(j.one, api.Mark{Agent: agent, Other: other, Good: ending[0]})
	} else {
		j.pairs = append(j.pairs, [2]int{agent, other})
	}
	if len(not) > 0 {
		j.any = append(j.any, api.Mark{Agent: agent, Other: other, Good: not[0]})
	}
}

// judgeShare adds what must be found for a poor agent.
func (j *judged) judgeShare(agent int) {
	for good, owner := range j.a {
		if owner != agent && !isPoor(j.g, changed(j.a, good, agent), agent) {
			j.share = append(j.share, api.Mark{Agent: agent, Other: owner, Good: good})
			return
		}
	}
	j.helpless = append(j.helpless, agent)
}

// isComplete reports whether each good has an agent.
func (j judged) isComplete() bool { return !slices.Contains(j.a, -1) }

// lists returns all lists of n numbers from least to most, in the order of lists.
func lists(n, least, most int) [][]int {
	if n == 0 {
		return [][]int{nil}
	}
	var l [][]int
	for x := least; x <= most; x++ {
		for _, rest := range lists(n-1, least, most) {
			l = append(l, append([]int{x}, rest...))
		}
	}
	return l
}

// randomValues returns so many values up to most.
func randomValues(r *rand.Rand, many, most int) []int {
	var l []int
	for range many {
		l = append(l, r.Intn(most+1))
	}
	return l
}

// smallAllocations returns all allocations of all goods of up to two agents and two goods with values up to 2, and of some goods of two or three agents and from two to five goods.
func smallAllocations() []judged {
	var all []judged
	add := func(g api.Goods) {
		for _, a := range lists(len(g.V[0]), -1, len(g.V)-1) {
			all = append(all, judge(g, a))
		}
	}
	for many := range 3 {
		for _, first := range lists(many, 0, 2) {
			add(goodsOf(first))
			for _, second := range lists(many, 0, 2) {
				add(goodsOf(first, second))
			}
		}
	}
	r := rand.New(rand.NewSource(31))
	for trial := range 40 {
		var g api.Goods
		for range trial%2 + 2 {
			g.V = append(g.V, randomValues(r, trial%4+2, []int{2, 4, 9}[r.Intn(3)]))
		}
		add(g)
	}
	return all
}

// randomGoods returns goods: with few values or many, with one good that is worth more than others, with agents that want the same, and with nothing wanted.
func randomGoods(r *rand.Rand) api.Goods {
	n, many := r.Intn(api.MaxAgents)+1, r.Intn(api.MaxGoods+1)
	most := []int{1, 2, 5, 30, api.MaxValue}[r.Intn(5)]
	g := alike(n, many, 0)
	for agent := range g.V {
		switch r.Intn(8) {
		case 0:
			g.V[agent] = slices.Clone(g.V[r.Intn(n)])
		case 1:
			g.V[agent] = list(many, r.Intn(2)*api.MaxValue)
		default:
			g.V[agent] = randomValues(r, many, most)
		}
		if many > 0 && r.Intn(3) == 0 {
			g.V[agent][r.Intn(many)] = api.MaxValue
		}
	}
	return g
}

// randomAllocation returns an allocation of some goods: any one, a complete one, one in which all goods go to few agents, or one in which each good goes to an agent that has the fewest.
func randomAllocation(r *rand.Rand, g api.Goods) []int {
	n, kind := len(g.V), r.Intn(4)
	count := list(n, 0)
	var a []int
	for range g.V[0] {
		agent := r.Intn(n)
		switch kind {
		case 0:
			agent = r.Intn(n+1) - 1
		case 1:
			agent = r.Intn(min(n, 2))
		case 2:
			agent = slices.Index(count, slices.Min(count))
		}
		if agent >= 0 {
			count[agent]++
		}
		a = append(a, agent)
	}
	return a
}

// samples returns the cases, and random allocations, the same ones each time, with what must be found for them.
func samples(many int) []judged {
	r := rand.New(rand.NewSource(32))
	all := cases()
	for range many {
		g := randomGoods(r)
		all = append(all, judge(g, randomAllocation(r, g)))
	}
	return all
}

// everything returns all allocations of small goods, the cases, and random allocations.
func everything() []judged { return append(smallAllocations(), samples(5000)...) }

// flawed is what are no valid goods, and the error of it.
type flawed struct {
	g api.Goods
	e api.Errno
}

// badGoods returns what are no valid goods: too many agents, or none, too many goods, and lists of values that are wrong.
func badGoods() []flawed {
	all := []flawed{
		{api.Goods{}, api.ErrBad},
		{goodsOf(nil, []int{1}), api.ErrBad},
		{goodsOf([]int{1, 2}, []int{1}), api.ErrBad},
		{goodsOf([]int{1}, []int{1, 2}), api.ErrBad},
		{alike(api.MaxAgents+1, 2, 1), api.ErrMany},
		{alike(api.MaxAgents+1, 0, 0), api.ErrMany},
		{alike(api.MaxAgents+1, 2, -1), api.ErrMany},
		{alike(2, api.MaxGoods+1, 1), api.ErrMany},
		{goodsOf([]int{-1, 1}, list(api.MaxGoods+1, 1)), api.ErrMany},
	}
	for agent := range 3 {
		for good := range 2 {
			for _, strange := range []int{-1, api.MaxValue + 1, math.MinInt, math.MaxInt} {
				g := alike(3, 2, 1)
				g.V[agent][good] = strange
				all = append(all, flawed{g, api.ErrBad})
			}
		}
	}
	return all
}

// noAllocations returns lists that are no allocations to n agents, but nearly a valid one.
func noAllocations(n int, a []int) [][]int {
	l := [][]int{append(slices.Clone(a), 0), append(slices.Clone(a), -1), list(len(a)+1000, 0)}
	if len(a) > 0 {
		l = append(l, nil, a[:len(a)-1])
	}
	for good := range a {
		for _, strange := range []int{-2, n, math.MinInt, math.MaxInt} {
			l = append(l, changed(a, good, strange))
		}
	}
	return l
}
