package assign_test

import (
	"math"
	"math/rand"
	"slices"

	"parcener/api"
)

// solved is bids, and what must be found for them.
type solved struct {
	v     [][]int
	best  []int
	value int
	price []int
	harm  []int
}

// list returns n times a number.
func list(n, x int) []int { return slices.Repeat([]int{x}, n) }

// counted returns the numbers from 0 to n - 1.
func counted(n int) []int {
	var l []int
	for i := range n {
		l = append(l, i)
	}
	return l
}

// square returns bids of n agents, of which a function tells the values.
func square(n int, worth func(agent, item int) int) [][]int {
	v := make([][]int, n)
	for agent := range v {
		for item := range n {
			v[agent] = append(v[agent], worth(agent, item))
		}
	}
	return v
}

// alike returns bids of n agents who all give the same value to everything.
func alike(n, worth int) [][]int {
	return square(n, func(int, int) int { return worth })
}

// behind returns bids of n agents who all have one of the items, but want the one in front of it more.
func behind(n int) [][]int {
	return square(n, func(agent, item int) int {
		switch item {
		case agent:
			return 20
		case agent - 1:
			return 23
		}
		return 0
	})
}

// copied returns a copy of some lists.
func copied(v [][]int) [][]int {
	var l [][]int
	for _, row := range v {
		l = append(l, slices.Clone(row))
	}
	return l
}

// sameLists reports whether two lists of lists have the same numbers.
func sameLists(a, b [][]int) bool { return slices.EqualFunc(a, b, slices.Equal) }

// permutations returns all assignments of n agents, in the order of lists: the last item of n is put everywhere into all assignments of the others, and the result is sorted.
func permutations(n int) [][]int {
	if n == 0 {
		return [][]int{nil}
	}
	var l [][]int
	for _, a := range permutations(n - 1) {
		for at := range n {
			l = append(l, slices.Insert(slices.Clone(a), at, n-1))
		}
	}
	slices.SortFunc(l, slices.Compare)
	return l
}

// worthTo returns the value of an assignment for all agents that are not left out.
func worthTo(v [][]int, a []int, leftOut int) int {
	sum := 0
	for agent, item := range a {
		if agent != leftOut {
			sum += v[agent][item]
		}
	}
	return sum
}

// nobody is left out.
const nobody = -1

// bestOf returns the best assignment and its value, as the definition tells it, if one agent is left out or nobody: the first of all with the greatest value.
func bestOf(v [][]int, leftOut int) (best []int, value int) {
	value = math.MinInt
	for _, a := range permutations(len(v)) {
		if sum := worthTo(v, a, leftOut); sum > value {
			best, value = a, sum
		}
	}
	return best, value
}

// harmsOf returns the harm of all agents, as the definition tells it.
func harmsOf(v [][]int) []int {
	best, _ := bestOf(v, nobody)
	var harm []int
	for agent := range v {
		_, others := bestOf(v, agent)
		harm = append(harm, others-worthTo(v, best, agent))
	}
	return harm
}

// isProof reports whether prices prove an assignment, as the definition tells it.
func isProof(v [][]int, a, p []int) bool {
	for i := range v {
		for j := range v {
			if v[i][a[i]]-p[a[i]] < v[i][j]-p[j] {
				return false
			}
		}
	}
	return true
}

// proving returns all prices from 0 to most of n items that prove an assignment.
func proving(v [][]int, a []int, most int) [][]int {
	var l [][]int
	for _, p := range lists(len(v), most) {
		if isProof(v, a, p) {
			l = append(l, p)
		}
	}
	return l
}

// lists returns all lists of n numbers from 0 to most.
func lists(n, most int) [][]int {
	if n == 0 {
		return [][]int{nil}
	}
	var l [][]int
	for _, rest := range lists(n-1, most) {
		for x := range most + 1 {
			l = append(l, append(slices.Clone(rest), x))
		}
	}
	return l
}

// leastOf returns the least ones of some prices, item by item.
func leastOf(all [][]int) []int {
	least := slices.Clone(all[0])
	for _, p := range all {
		for j := range p {
			least[j] = min(least[j], p[j])
		}
	}
	return least
}

// heldUp returns the items of which the price can be no less, if none of the prices is less than 0: an item with the price 0, and one that an agent wants just as much as its own one, if that is held up.
func heldUp(v [][]int, a, p []int) []int {
	var held []int
	for range v {
		for j := range p {
			up := p[j] == 0
			for i, own := range a {
				up = up || slices.Contains(held, own) && v[i][j]-p[j] == v[i][own]-p[own]
			}
			if up && !slices.Contains(held, j) {
				held = append(held, j)
			}
		}
	}
	return held
}

// randomBids returns bids of n agents: with few values or many, with agents that want the same, and with nothing wanted.
func randomBids(g *rand.Rand, n int) [][]int {
	most := []int{1, 2, 4, 10, 1000, api.MaxWorth}[g.Intn(6)]
	v := square(n, func(int, int) int { return g.Intn(most + 1) })
	for agent := range v {
		switch g.Intn(10) {
		case 0:
			copy(v[agent], v[g.Intn(n)])
		case 1:
			copy(v[agent], list(n, 0))
		case 2:
			v[agent][g.Intn(n)] = api.MaxWorth
		}
	}
	return v
}

// samples returns random bids, the same ones each time, and those of the cases.
func samples(many int) [][][]int {
	g := rand.New(rand.NewSource(13))
	var all [][][]int
	for range many {
		all = append(all, randomBids(g, g.Intn(api.MaxAgents)+1))
	}
	for _, c := range cases() {
		all = append(all, c.v)
	}
	return all
}

// smallBids returns all bids of up to two agents with values up to 4, and some of three with values up to 3.
func smallBids() [][][]int {
	var all [][][]int
	for n := range 2 {
		for _, l := range lists((n+1)*(n+1), 4) {
			all = append(all, square(n+1, func(agent, item int) int { return l[agent*(n+1)+item] }))
		}
	}
	g := rand.New(rand.NewSource(14))
	for range 1500 {
		all = append(all, square(3, func(int, int) int { return g.Intn(4) }))
	}
	return all
}

// flawed is what are no valid bids, and the error of it.
type flawed struct {
	v [][]int
	e api.Errno
}

// badBids returns what are no valid bids.
func badBids() []flawed {
	l := []flawed{
		{nil, api.ErrBad},
		{[][]int{}, api.ErrBad},
		{[][]int{nil}, api.ErrBad},
		{[][]int{{}}, api.ErrBad},
		{alike(api.MaxAgents+1, 1), api.ErrMany},
		{alike(api.MaxAgents+1, -1), api.ErrMany},
		{alike(api.MaxAgents+1, api.MaxWorth+1), api.ErrMany},
		{make([][]int, api.MaxAgents+1), api.ErrMany},
		{make([][]int, 3000), api.ErrMany},
		{make([][]int, api.MaxAgents), api.ErrBad},
		// more items than there may be, but no more agents
		{[][]int{list(api.MaxAgents+1, 1)}, api.ErrBad},
		{slices.Repeat([][]int{list(api.MaxAgents+1, 1)}, api.MaxAgents), api.ErrBad},
		// fewer agents than items, and more
		{alike(3, 1)[:2], api.ErrBad},
		{[][]int{{1, 1}, {1, 1}, {1, 1}}, api.ErrBad},
		{[][]int{{1, 2}, {3, 4, 5}, {6}}, api.ErrBad},
	}
	for n := range api.MaxAgents {
		n++
		for agent := range n {
			for _, row := range [][]int{nil, list(n-1, 1), list(n+1, 1)} {
				v := alike(n, 1)
				v[agent] = row
				l = append(l, flawed{v, api.ErrBad})
			}
			for item := range n {
				for _, worth := range []int{-1, api.MaxWorth + 1, math.MinInt, math.MaxInt} {
					v := alike(n, 1)
					v[agent][item] = worth
					l = append(l, flawed{v, api.ErrBad})
				}
			}
		}
	}
	return l
}

// noAssignments returns lists that are no assignments of n agents.
func noAssignments(n int) [][]int {
	l := [][]int{nil, {}, list(n, n), list(n, -1), list(n+1, 0), make([]int, 1000)}
	for _, a := range [][]int{counted(n), permutations(n)[len(permutations(n))/2]} {
		l = append(l, a[:n-1], append(slices.Clone(a), n), append(slices.Clone(a), 0))
		for i, item := range a {
			for _, strange := range []int{-1, n, item + n, item - n, item + 64, item - 64, math.MinInt, math.MaxInt} {
				l = append(l, slices.Replace(slices.Clone(a), i, i+1, strange))
			}
			if n > 1 {
				l = append(l, slices.Replace(slices.Clone(a), i, i+1, a[(i+1)%n]))
			}
		}
	}
	return l
}

// noPrices returns lists that are no prices of n items.
func noPrices(n int) [][]int {
	l := [][]int{nil, {}, list(n-1, 0), list(n+1, 0), make([]int, 1000), list(n, -1), list(n, api.MaxPrice+1)}
	for j := range n {
		for _, strange := range []int{-1, -api.MaxPrice, api.MaxPrice + 1, math.MinInt, math.MaxInt} {
			l = append(l, slices.Replace(list(n, 0), j, j+1, strange))
		}
	}
	return l
}
