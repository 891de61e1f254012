package near_test

import (
	"slices"
	"testing"

	"parcener/api"
	"parcener/near"
)

// marks returns marks, each of which is told as an agent, another one, and a good.
func marks(told ...[3]int) []api.Mark {
	var l []api.Mark
	for _, m := range told {
		l = append(l, api.Mark{Agent: m[0], Other: m[1], Good: m[2]})
	}
	return l
}

// cases returns allocations of which it is easily seen what must be found for them.
func cases() []judged {
	all := append(pairCases(), groupCases()...)
	for n := range api.MaxAgents {
		n++
		// Without goods nobody is poor, and where each one has one of equal goods, neither.
		all = append(all, judged{g: alike(n, 0, 0)}, judged{g: alike(n, n, api.MaxValue), a: upTo(n)})
	}
	return all
}

// pairCases returns cases of one agent and of two.
func pairCases() []judged {
	example := goodsOf([]int{5, 3, 1}, []int{2, 2, 2})
	// first returns goods of which the agent 1 wants none.
	first := func(values ...int) api.Goods { return goodsOf(values, list(len(values), 0)) }
	return []judged{
		// the chapter's examples
		{g: example, a: []int{1, 1, 0}, pairs: [][2]int{{0, 1}}, any: marks([3]int{0, 1, 0}), share: marks([3]int{0, 1, 0})},
		{g: example, a: []int{1, 0, 0}, one: marks([3]int{0, 1, 0}, [3]int{1, 0, 1}), share: marks([3]int{0, 1, 0}, [3]int{1, 0, 1})},
		{g: example, a: []int{0, 1, 1}},
		// Without envy there may be poor agents, if nobody gets some goods; and nobody has what makes good their shares.
		{g: example, a: []int{-1, -1, -1}, share: marks([3]int{0, -1, 0}), helpless: []int{1}},
		{g: example, a: []int{-1, 0, 1}, share: marks([3]int{0, -1, 0}, [3]int{1, -1, 0})},
		{g: goodsOf([]int{3, 4, 6, 2}, []int{0, 1, 0, 0}), a: []int{0, 1, -1, -1}, one: marks([3]int{0, 1, 1}), share: marks([3]int{0, -1, 2})},
		// What is just enough ends envy, and makes good a share; what is 1 less does not.
		{g: first(3, 3, 4, 4), a: []int{0, 1, 1, -1}, one: marks([3]int{0, 1, 2}), any: marks([3]int{0, 1, 1}), share: marks([3]int{0, 1, 2})},
		{g: first(2, 3, 4, 4), a: []int{0, 1, 1, -1}, pairs: [][2]int{{0, 1}}, any: marks([3]int{0, 1, 1}), helpless: []int{0}},
		{g: first(4, 4, 4), a: []int{0, 1, 1}, one: marks([3]int{0, 1, 1}), share: marks([3]int{0, 1, 1})},
		{g: first(4, 4, 5), a: []int{0, 1, 1}, one: marks([3]int{0, 1, 2}), any: marks([3]int{0, 1, 1}), share: marks([3]int{0, 1, 1})},
		// The least good counts, not the one that is worth the most.
		{g: first(4, 3, 1, 4), a: []int{0, 1, 1, 1}, one: marks([3]int{0, 1, 3}), any: marks([3]int{0, 1, 1}), share: marks([3]int{0, 1, 1})},
		{g: first(1, 2, 2, 0, 3), a: []int{0, 1, -1, 1, -1}, one: marks([3]int{0, 1, 1}), any: marks([3]int{0, 1, 3}), share: marks([3]int{0, -1, 4})},
		// A good that is worth nothing ends no envy, nor makes it good a share.
		{g: first(0, 7, 0), a: []int{1, 1, 0}, one: marks([3]int{0, 1, 1}), any: marks([3]int{0, 1, 0}), share: marks([3]int{0, 1, 1})},
		// Alone an agent envies nobody, but can be poor.
		{g: goodsOf([]int{4, 0, 2}), a: []int{0, 0, 0}},
		{g: goodsOf([]int{4, 0, 2}), a: []int{0, 0, -1}, share: marks([3]int{0, -1, 2})},
		{g: goodsOf([]int{4, 0, 2}), a: []int{-1, 0, -1}, helpless: []int{0}},
	}
}

// groupCases returns cases of three agents and more.
func groupCases() []judged {
	three := goodsOf([]int{6, 4, 4, 1, 1}, []int{1, 1, 1, 1, 1}, []int{0, 0, 0, 0, 9})
	like := goodsOf(list(5, 1), list(5, 1), list(5, 3))
	return []judged{
		{g: three, a: []int{0, 1, 1, 2, 2}, one: marks([3]int{0, 1, 1})},
		{
			g: three, a: []int{2, 2, 2, 0, 1},
			one: marks([3]int{2, 1, 4}), pairs: [][2]int{{0, 2}, {1, 2}},
			any:   marks([3]int{0, 2, 0}, [3]int{1, 2, 0}),
			share: marks([3]int{0, 2, 0}, [3]int{1, 2, 0}, [3]int{2, 1, 4}),
		},
		// A good makes good a share also if its agent is not envied.
		{
			g: goodsOf([]int{2, 2, 3, 3}, []int{1, 1, 1, 1}, []int{0, 0, 1, 0}), a: []int{0, 1, 2, -1},
			one: marks([3]int{0, 2, 2}), share: marks([3]int{0, 1, 1}, [3]int{1, 0, 0}),
		},
		// An agent can envy two others, one of whom up to a good.
		{
			g: like, a: []int{0, 1, 0, 0, 0},
			one: marks([3]int{2, 1, 1}), pairs: [][2]int{{1, 0}, {2, 0}},
			any:   marks([3]int{1, 0, 0}, [3]int{2, 0, 0}),
			share: marks([3]int{1, 0, 0}), helpless: []int{2},
		},
		{
			g: like, a: []int{0, 1, 1, 0, 0},
			one: marks([3]int{1, 0, 0}), pairs: [][2]int{{2, 0}, {2, 1}},
			any: marks([3]int{2, 0, 0}, [3]int{2, 1, 1}), helpless: []int{2},
		},
		// as many agents, goods and values as there may be
		{
			g: alike(api.MaxAgents, api.MaxGoods, api.MaxValue), a: []int{0, 1, 2, 3, 4, 5, 5, 5, 5, 5},
			pairs: [][2]int{{0, 5}, {1, 5}, {2, 5}, {3, 5}, {4, 5}},
			any:   marks([3]int{0, 5, 5}, [3]int{1, 5, 5}, [3]int{2, 5, 5}, [3]int{3, 5, 5}, [3]int{4, 5, 5}),
			share: marks([3]int{0, 1, 1}, [3]int{1, 0, 0}, [3]int{2, 0, 0}, [3]int{3, 0, 0}, [3]int{4, 0, 0}),
		},
	}
}

// checkOne reports what One returns if it is not what it must be.
func checkOne(t *testing.T, j judged) {
	t.Helper()
	if l, pairs, e := near.One(j.g, j.a); !slices.Equal(l, j.one) || !slices.Equal(pairs, j.pairs) || e != api.OK {
		t.Errorf("One(%v, %v) = %v, %v, %v; want %v, %v", j.g, j.a, l, pairs, e, j.one, j.pairs)
	}
}

// checkAny reports what Any returns if it is not what it must be.
func checkAny(t *testing.T, j judged) {
	t.Helper()
	if l, e := near.Any(j.g, j.a); !slices.Equal(l, j.any) || e != api.OK {
		t.Errorf("Any(%v, %v) = %v, %v; want %v", j.g, j.a, l, e, j.any)
	}
}

// checkShare reports what Share returns if it is not what it must be.
func checkShare(t *testing.T, j judged) {
	t.Helper()
	if l, helpless, e := near.Share(j.g, j.a); !slices.Equal(l, j.share) || !slices.Equal(helpless, j.helpless) || e != api.OK {
		t.Errorf("Share(%v, %v) = %v, %v, %v; want %v, %v", j.g, j.a, l, helpless, e, j.share, j.helpless)
	}
}

// checkJudged reports what is found for an allocation if it is not what must be found.
func checkJudged(t *testing.T, j judged) {
	t.Helper()
	checkOne(t, j)
	checkAny(t, j)
	checkShare(t, j)
}

// checkNone reports calls that have not an error, and zero values.
func checkNone(t *testing.T, g api.Goods, a []int, want api.Errno) {
	t.Helper()
	if l, pairs, e := near.One(g, a); len(l) != 0 || len(pairs) != 0 || e != want {
		t.Errorf("One(%v, %v) = %v, %v, %v; want %v", g, a, l, pairs, e, want)
	}
	if l, e := near.Any(g, a); len(l) != 0 || e != want {
		t.Errorf("Any(%v, %v) = %v, %v; want %v", g, a, l, e, want)
	}
	if l, helpless, e := near.Share(g, a); len(l) != 0 || len(helpless) != 0 || e != want {
		t.Errorf("Share(%v, %v) = %v, %v, %v; want %v", g, a, l, helpless, e, want)
	}
}

// P17.1 to P17.3: witnesses that are easily seen.
func TestCases(t *testing.T) {
	for _, j := range cases() {
		checkJudged(t, j)
	}
}

// P17.1: the marks and the pairs of One are those of the definitions, in all allocations of small goods and in random ones.
func TestOneAmongAll(t *testing.T) {
	ended, not, both := 0, 0, 0
	for _, j := range everything() {
		checkOne(t, j)
		if len(j.one) > 0 {
			ended++
		}
		if len(j.pairs) > 0 {
			not++
		}
		if len(j.one) > 1 && len(j.pairs) > 1 {
			both++
		}
	}
	if ended < 1000 || not < 1000 || both < 100 {
		t.Errorf("too few cases of one kind: %d with marks, %d with pairs, %d with two of both", ended, not, both)
	}
}

// P17.2: the marks of Any are those of the definitions.
func TestAnyAmongAll(t *testing.T) {
	marked, without, later := 0, 0, 0
	for _, j := range everything() {
		checkAny(t, j)
		if len(j.any) > 0 {
			marked++
		} else if len(j.one) > 0 {
			without++
		}
		if slices.ContainsFunc(j.any, func(m api.Mark) bool { return m.Good != slices.Index(j.a, m.Other) }) {
			later++
		}
	}
	if marked < 1000 || without < 1000 || later < 100 {
		t.Errorf("too few cases of one kind: %d with marks, %d with envy and no marks, %d with a good that is not the first one of its bundle", marked, without, later)
	}
}

// P17.3: the marks and the agents of Share are those of the definitions.
func TestShareAmongAll(t *testing.T) {
	marked, free, helpless := 0, 0, 0
	for _, j := range everything() {
		checkShare(t, j)
		if len(j.share) > 0 {
			marked++
		}
		if slices.ContainsFunc(j.share, func(m api.Mark) bool { return m.Other < 0 }) {
			free++
		}
		if len(j.helpless) > 0 {
			helpless++
		}
	}
	if marked < 1000 || free < 1000 || helpless < 500 {
		t.Errorf("too few cases of one kind: %d with marks, %d with a good that nobody gets, %d with an agent for whom there is no good", marked, free, helpless)
	}
}

// P17.1 to P17.3: what are no valid goods has the error of goods.Valid, ErrMany ahead of ErrBad, whatever the allocation is.
func TestBadGoods(t *testing.T) {
	for _, f := range badGoods() {
		for _, a := range [][]int{nil, {0}, {0, 0}, {-2, 9}} {
			checkNone(t, f.g, a, f.e)
		}
	}
}

// P17.1 to P17.3: a list that is no allocation is ErrBad.
func TestNoAllocations(t *testing.T) {
	for _, j := range cases() {
		for _, a := range noAllocations(len(j.g.V), j.a) {
			checkNone(t, j.g, a, api.ErrBad)
		}
	}
}
