package goods_test

import (
	"slices"
	"testing"

	"parcener/api"
	"parcener/goods"
)

// roomy returns a copy of a list that has memory behind its end, and a check whether all of that memory is as it was.
func roomy(l []int) (list []int, kept func() bool) {
	memory := append(slices.Clone(l), 91, 92, 93)
	before := slices.Clone(memory)
	return memory[:len(l)], func() bool { return slices.Equal(memory, before) }
}

// roomyGoods returns a copy of some goods, all lists of which have memory behind their ends, and a check whether all of that memory is as it was.
func roomyGoods(g api.Goods) (api.Goods, func() bool) {
	var checks []func() bool
	var memory [][]int
	for _, values := range append(slices.Clone(g.V), []int{94}, []int{95, 96}) {
		row, kept := roomy(values)
		memory = append(memory, row)
		checks = append(checks, kept)
	}
	before := copied(memory)
	checks = append(checks, func() bool { return sameLists(memory, before) })
	kept := func() bool { return !slices.ContainsFunc(checks, func(kept func() bool) bool { return !kept() }) }
	return api.Goods{V: memory[:len(g.V)]}, kept
}

// fill writes over all the memory of a list, also behind its end.
func fill[T any](l []T, x T) {
	l = l[:cap(l)]
	for i := range l {
		l[i] = x
	}
}

// R2: no call changes its arguments, also behind their ends, and also if it has an error.
func TestOnlyRead(t *testing.T) {
	all := samples(200)
	for _, f := range badGoods() {
		all = append(all, judged{g: f.g, a: []int{0, 0}})
	}
	for _, j := range all {
		n := len(j.g.V)
		g, keptGoods := roomyGoods(j.g)
		goods.Check(g)
		for _, start := range [][]int{j.a, list(len(j.a), -1), list(len(j.a), n), nil} {
			a, keptAllocation := roomy(start)
			goods.Valid(g, a)
			goods.Values(g, a)
			goods.Envies(g, a)
			goods.Poor(g, a)
			for _, way := range [][]int{counted(n), append(counted(n), 0)[1:], list(n, 0), {0}, nil} {
				order, keptOrder := roomy(way)
				goods.Pass(g, a, order)
				if !keptOrder() {
					t.Errorf("the order %v was changed", way)
				}
			}
			for agent := range n + 1 {
				goods.Give(g, a, 0, agent-1)
				goods.Give(g, a, len(a), agent)
			}
			if !keptAllocation() {
				t.Errorf("the allocation %v was changed", start)
			}
		}
		if !keptGoods() || !sameLists(g.V, j.g.V) {
			t.Errorf("the goods %v were changed", j.g)
		}
	}
}

// R2: results share no memory with arguments, with each other, nor with those of other calls.
func TestOwnMemory(t *testing.T) {
	for _, j := range cases() {
		n := len(j.g.V)
		g, a, order := api.Goods{V: copied(j.g.V)}, slices.Clone(j.a), counted(n)
		// The results of the first call must stay as they are until the end.
		kept, _ := goods.Values(g, a)
		for range 2 {
			values, _ := goods.Values(g, a)
			for i, row := range values {
				fill(row, -7)
				if i+1 < n && !sameLists(values[i+1:], j.values[i+1:]) {
					t.Errorf("Values(%v, %v): two lists share memory", j.g, j.a)
				}
			}
			fill(values, nil)
			pairs, _ := goods.Envies(g, a)
			fill(pairs, [2]int{-7, -7})
			poor, _ := goods.Poor(g, a)
			fill(poor, -7)
			passed, _ := goods.Pass(g, a, order)
			fill(passed, -7)
			if len(a) > 0 {
				given, _ := goods.Give(g, a, 0, a[0])
				fill(given, -7)
			}
			checkJudged(t, judged{g, a, j.values, j.pairs, j.poor})
		}
		if !sameLists(kept, j.values) || !sameLists(g.V, j.g.V) || !slices.Equal(a, j.a) || !slices.Equal(order, counted(n)) {
			t.Errorf("%v, %v: results share memory with arguments, or with others", j.g, j.a)
		}
	}
}

// R2: values that are the same memory for all agents, and an allocation that is also the order, or the values, are as good as others.
func TestSharedArguments(t *testing.T) {
	row := []int{1, 2, 0}
	g := goodsOf(row, row, row)
	checkJudged(t, judged{g, []int{0, 1, 2}, [][]int{{1, 2, 0}, {1, 2, 0}, {1, 2, 0}}, [][2]int{{0, 1}, {2, 0}, {2, 1}}, []int{2}})
	checkJudged(t, judged{g, row, [][]int{{0, 1, 2}, {0, 1, 2}, {0, 1, 2}}, [][2]int{{0, 1}, {0, 2}, {1, 2}}, []int{0}})
	// The agent 0 had the good 2, which the agent 2 gets, and so on round the circle.
	checkPass(t, g, row, row, []int{0, 1, 2})
	checkGive(t, g, row, 0, 2, []int{2, 2, 0})
	if !slices.Equal(row, []int{1, 2, 0}) {
		t.Errorf("the list was changed to %v", row)
	}
}

// R2: nothing is kept: each call has the same results again, also after others.
func TestNothingIsKept(t *testing.T) {
	all := samples(100)
	for range 2 {
		for _, j := range all {
			n := len(j.g.V)
			checkJudged(t, j)
			checkPass(t, j.g, j.a, counted(n), j.a)
			goods.Pass(j.g, j.a, nil)
			goods.Give(j.g, j.a, -1, 0)
			goods.Values(api.Goods{}, j.a)
			if len(j.a) > 0 {
				checkGive(t, j.g, j.a, 0, n-1, changed(j.a, 0, n-1))
			}
		}
		slices.Reverse(all)
	}
}

// R3: nil and empty lists are the same.
func TestEmptyIsNil(t *testing.T) {
	two := goodsOf([]int{3}, []int{4})
	for _, none := range [][]int{nil, {}} {
		for _, v := range [][][]int{nil, {}} {
			checkNone(t, api.Goods{V: v}, none, none, 0, 0, api.ErrBad)
		}
		checkNone(t, two, none, []int{0, 1}, 0, 0, api.ErrBad)
		checkNoPass(t, two, []int{0}, none, api.ErrArg)
		for _, other := range [][]int{nil, {}} {
			g := goodsOf(none, other)
			checkJudged(t, judged{g: g, a: none, values: [][]int{{0, 0}, {0, 0}}})
			checkPass(t, g, other, []int{1, 0}, none)
			checkNoPass(t, g, none, other, api.ErrArg)
			checkNoGive(t, g, none, 0, 0, api.ErrArg)
			checkNone(t, goodsOf(none, []int{1}), other, []int{0, 1}, 0, 0, api.ErrBad)
			checkNone(t, goodsOf([]int{1}, none), []int{0}, []int{0, 1}, 0, 0, api.ErrBad)
		}
	}
}
