package goods_test

import (
	"math"
	"slices"
	"testing"

	"parcener/api"
	"parcener/goods"
)

// cases returns allocations of which it is easily seen what must be found for them.
func cases() []judged {
	const most = api.MaxValue
	example := goodsOf([]int{5, 3, 1}, []int{2, 2, 2})
	three := goodsOf([]int{4, 3, 2, 1}, []int{1, 1, 1, 1}, []int{0, 5, 5, 0})
	all := []judged{
		// the chapter's examples
		{example, []int{0, 1, 1}, [][]int{{5, 4}, {2, 4}}, nil, nil},
		{example, []int{1, 0, 0}, [][]int{{4, 5}, {4, 2}}, [][2]int{{0, 1}, {1, 0}}, []int{0, 1}},
		// What nobody gets is worth nothing, but counts for the shares.
		{example, []int{-1, -1, -1}, [][]int{{0, 0}, {0, 0}}, nil, []int{0, 1}},
		{example, []int{-1, 0, 1}, [][]int{{3, 1}, {2, 2}}, nil, []int{0, 1}},
		{example, []int{0, -1, 1}, [][]int{{5, 1}, {2, 2}}, nil, []int{1}},
		{three, []int{0, 1, 2, -1}, [][]int{{4, 3, 2}, {1, 1, 1}, {0, 5, 5}}, nil, []int{1}},
		{three, []int{2, 0, 1, -1}, [][]int{{3, 2, 4}, {1, 1, 1}, {5, 5, 0}}, [][2]int{{0, 2}, {2, 0}, {2, 1}}, []int{0, 1, 2}},
		// Who has just its share is not poor, and who has just as much as another one does not envy it.
		{goodsOf([]int{3, 3}, []int{1, 1}), []int{1, 0}, [][]int{{3, 3}, {1, 1}}, nil, nil},
		{goodsOf([]int{3, 4}, []int{2, 1}), []int{0, 1}, [][]int{{3, 4}, {2, 1}}, [][2]int{{0, 1}, {1, 0}}, []int{0, 1}},
		{goodsOf([]int{2, 1, 3}, []int{2, 2, 2}, []int{0, 1, 5}), []int{0, 1, 2}, [][]int{{2, 1, 3}, {2, 2, 2}, {0, 1, 5}}, [][2]int{{0, 2}}, nil},
		// Who wants nothing is neither poor nor envies anyone.
		{goodsOf([]int{0, 0}, []int{7, 9}), []int{1, 1}, [][]int{{0, 0}, {0, 16}}, nil, nil},
		{goodsOf([]int{0, 0}, []int{7, 9}), []int{0, 0}, [][]int{{0, 0}, {16, 0}}, [][2]int{{1, 0}}, []int{1}},
		// Alone an agent envies nobody, but is poor without something that it wants.
		{goodsOf([]int{4, 0, 2}), []int{0, -1, 0}, [][]int{{6}}, nil, nil},
		{goodsOf([]int{4, 0, 2}), []int{0, 0, -1}, [][]int{{4}}, nil, []int{0}},
		// An agent that has no share envies no one who has as little.
		{goodsOf([]int{5, 5}, []int{5, 5}, []int{5, 5}), []int{1, 1}, [][]int{{0, 10, 0}, {0, 10, 0}, {0, 10, 0}}, [][2]int{{0, 1}, {2, 1}}, []int{0, 2}},
		// as many agents, goods and values as there may be
		{alike(api.MaxAgents, api.MaxGoods, most), []int{0, 1, 2, 3, 4, 5, 5, 5, 5, 5}, slices.Repeat([][]int{{most, most, most, most, most, 5 * most}}, 6), [][2]int{{0, 5}, {1, 5}, {2, 5}, {3, 5}, {4, 5}}, []int{0, 1, 2, 3, 4}},
	}
	for n := range api.MaxAgents {
		n++
		nothing := slices.Repeat([][]int{list(n, 0)}, n)
		all = append(all, judged{g: alike(n, 0, 0), values: nothing}, judged{g: alike(n, api.MaxGoods, 0), a: list(api.MaxGoods, n-1), values: nothing})
		// each one has a good, and all want them alike
		all = append(all, judged{g: alike(n, n, most), a: counted(n), values: slices.Repeat([][]int{list(n, most)}, n)})
	}
	return all
}

// checkJudged reports what is found for an allocation if it is not as it must be.
func checkJudged(t *testing.T, j judged) {
	t.Helper()
	if e := goods.Valid(j.g, j.a); e != api.OK {
		t.Errorf("Valid(%v, %v) = %v", j.g, j.a, e)
	}
	if values, e := goods.Values(j.g, j.a); !sameLists(values, j.values) || e != api.OK {
		t.Errorf("Values(%v, %v) = %v, %v; want %v", j.g, j.a, values, e, j.values)
	}
	if pairs, e := goods.Envies(j.g, j.a); !slices.Equal(pairs, j.pairs) || e != api.OK {
		t.Errorf("Envies(%v, %v) = %v, %v; want %v", j.g, j.a, pairs, e, j.pairs)
	}
	if poor, e := goods.Poor(j.g, j.a); !slices.Equal(poor, j.poor) || e != api.OK {
		t.Errorf("Poor(%v, %v) = %v, %v; want %v", j.g, j.a, poor, e, j.poor)
	}
}

// checkPass reports an allocation after passing bundles if it is not as it must be.
func checkPass(t *testing.T, g api.Goods, a, order, want []int) {
	t.Helper()
	if passed, e := goods.Pass(g, a, order); !slices.Equal(passed, want) || e != api.OK {
		t.Errorf("Pass(%v, %v, %v) = %v, %v; want %v", g, a, order, passed, e, want)
	}
}

// checkGive reports an allocation after giving a good if it is not as it must be.
func checkGive(t *testing.T, g api.Goods, a []int, good, agent int, want []int) {
	t.Helper()
	if given, e := goods.Give(g, a, good, agent); !slices.Equal(given, want) || e != api.OK {
		t.Errorf("Give(%v, %v, %d, %d) = %v, %v; want %v", g, a, good, agent, given, e, want)
	}
}

// checkNone reports calls for goods, with or without an allocation, that have not an error, and zero values.
func checkNone(t *testing.T, g api.Goods, a, order []int, good, agent int, want api.Errno) {
	t.Helper()
	if e := goods.Valid(g, a); e != want {
		t.Errorf("Valid(%v, %v) = %v; want %v", g, a, e, want)
	}
	if values, e := goods.Values(g, a); len(values) != 0 || e != want {
		t.Errorf("Values(%v, %v) = %v, %v; want %v", g, a, values, e, want)
	}
	if pairs, e := goods.Envies(g, a); len(pairs) != 0 || e != want {
		t.Errorf("Envies(%v, %v) = %v, %v; want %v", g, a, pairs, e, want)
	}
	if poor, e := goods.Poor(g, a); len(poor) != 0 || e != want {
		t.Errorf("Poor(%v, %v) = %v, %v; want %v", g, a, poor, e, want)
	}
	checkNoPass(t, g, a, order, want)
	checkNoGive(t, g, a, good, agent, want)
}

// checkNoPass reports bundles that are passed where there must be an error.
func checkNoPass(t *testing.T, g api.Goods, a, order []int, want api.Errno) {
	t.Helper()
	if passed, e := goods.Pass(g, a, order); len(passed) != 0 || e != want {
		t.Errorf("Pass(%v, %v, %v) = %v, %v; want %v", g, a, order, passed, e, want)
	}
}

// checkNoGive reports a good that is given where there must be an error.
func checkNoGive(t *testing.T, g api.Goods, a []int, good, agent int, want api.Errno) {
	t.Helper()
	if given, e := goods.Give(g, a, good, agent); len(given) != 0 || e != want {
		t.Errorf("Give(%v, %v, %d, %d) = %v, %v; want %v", g, a, good, agent, given, e, want)
	}
}

// P16.1: goods with as many agents and goods as there may be, or with no goods, and with the least and the greatest values, are valid.
func TestCheck(t *testing.T) {
	for _, j := range samples(300) {
		if e := goods.Check(j.g); e != api.OK {
			t.Errorf("Check(%v) = %v", j.g, e)
		}
	}
}

// P16.1 to P16.3: what are no valid goods has an error, ErrMany ahead of ErrBad, and all calls have it first, ahead of that of an allocation, an order, a good and an agent.
func TestBadGoods(t *testing.T) {
	for _, f := range badGoods() {
		if e := goods.Check(f.g); e != f.e {
			t.Errorf("Check(%v) = %v; want %v", f.g, e, f.e)
		}
		n, many := len(f.g.V), 0
		if n > 0 {
			many = len(f.g.V[0])
		}
		for _, a := range [][]int{list(many, 0), nil, {0}, {math.MinInt, math.MaxInt}} {
			checkNone(t, f.g, a, counted(n), 0, 0, f.e)
			checkNone(t, f.g, a, nil, -1, -2, f.e)
		}
	}
}

// P16.1: with each agent, or nobody, at each good a list is an allocation.
func TestValid(t *testing.T) {
	for _, j := range samples(300) {
		if e := goods.Valid(j.g, j.a); e != api.OK {
			t.Errorf("Valid(%v, %v) = %v", j.g, j.a, e)
		}
	}
}

// P16.1 to P16.3: a list that is no allocation is ErrBad, ahead of the error of an order, a good and an agent.
func TestNoAllocations(t *testing.T) {
	for _, j := range cases() {
		n := len(j.g.V)
		for _, a := range noAllocations(n, len(j.a)) {
			checkNone(t, j.g, a, counted(n), 0, 0, api.ErrBad)
			checkNone(t, j.g, a, nil, -1, -2, api.ErrBad)
		}
	}
}

// P16.1, P16.2: values, envy and poor agents that are easily seen.
func TestCases(t *testing.T) {
	for _, j := range cases() {
		checkJudged(t, j)
	}
}

// P16.3: bundles that are passed: each agent gets that of the one in its place of the order, not the other way round.
func TestPass(t *testing.T) {
	g := alike(3, 4, 1)
	for _, c := range []struct{ a, order, want []int }{
		{[]int{0, 1, 2, -1}, []int{0, 1, 2}, []int{0, 1, 2, -1}},
		{[]int{0, 1, 2, -1}, []int{1, 2, 0}, []int{2, 0, 1, -1}},
		{[]int{0, 1, 2, -1}, []int{2, 0, 1}, []int{1, 2, 0, -1}},
		{[]int{0, 1, 2, -1}, []int{1, 0, 2}, []int{1, 0, 2, -1}},
		{[]int{1, 1, -1, 1}, []int{2, 0, 1}, []int{2, 2, -1, 2}},
		{[]int{2, 0, 0, 2}, []int{1, 2, 0}, []int{1, 2, 2, 1}},
		{[]int{-1, -1, -1, -1}, []int{1, 2, 0}, []int{-1, -1, -1, -1}},
	} {
		checkPass(t, g, c.a, c.order, c.want)
	}
	six := alike(6, 6, 1)
	checkPass(t, six, []int{0, 1, 2, 3, 4, 5}, []int{5, 4, 3, 2, 1, 0}, []int{5, 4, 3, 2, 1, 0})
	checkPass(t, six, []int{0, 1, 2, 3, 4, 5}, []int{1, 2, 3, 4, 5, 0}, []int{5, 0, 1, 2, 3, 4})
	checkPass(t, alike(1, 2, 1), []int{0, -1}, []int{0}, []int{0, -1})
	checkPass(t, alike(2, 0, 0), nil, []int{1, 0}, nil)
}

// P16.3: an order that has not each agent once is ErrArg.
func TestPassAlongNoOrder(t *testing.T) {
	for _, j := range cases() {
		for _, order := range noOrders(len(j.g.V)) {
			checkNoPass(t, j.g, j.a, order, api.ErrArg)
		}
	}
}

// P16.3: a good is given to an agent, or to nobody, whoever had it.
func TestGive(t *testing.T) {
	g := alike(3, 4, 1)
	for _, c := range []struct {
		a           []int
		good, agent int
		want        []int
	}{
		{[]int{0, 1, 2, -1}, 3, 1, []int{0, 1, 2, 1}},
		{[]int{0, 1, 2, -1}, 3, -1, []int{0, 1, 2, -1}},
		{[]int{0, 1, 2, -1}, 0, 2, []int{2, 1, 2, -1}},
		{[]int{0, 1, 2, -1}, 0, 0, []int{0, 1, 2, -1}},
		{[]int{0, 1, 2, -1}, 2, 0, []int{0, 1, 0, -1}},
		{[]int{0, 1, 2, -1}, 1, -1, []int{0, -1, 2, -1}},
	} {
		checkGive(t, g, c.a, c.good, c.agent, c.want)
	}
	checkGive(t, alike(1, 1, 0), []int{-1}, 0, 0, []int{0})
	checkGive(t, alike(6, 10, 1), list(10, 0), 9, 5, changed(list(10, 0), 9, 5))
}

// P16.3: a good, or an agent, that does not exist is ErrArg.
func TestGiveNothing(t *testing.T) {
	for _, j := range cases() {
		n, many := len(j.g.V), len(j.a)
		for _, good := range []int{-1, many, many + 1, math.MinInt, math.MaxInt} {
			for agent := range n + 1 {
				checkNoGive(t, j.g, j.a, good, agent-1, api.ErrArg)
			}
			checkNoGive(t, j.g, j.a, good, n, api.ErrArg)
		}
		for good := range many {
			for _, agent := range []int{-2, n, n + 1, math.MinInt, math.MaxInt} {
				checkNoGive(t, j.g, j.a, good, agent, api.ErrArg)
			}
		}
	}
}
