package near_test

import (
	"slices"
	"testing"

	"parcener/api"
	"parcener/near"
)

// roomy returns a copy of a list that has memory behind its end, and a check whether all of that memory is as it was.
func roomy(l []int) (list []int, kept func() bool) {
	memory := append(slices.Clone(l), 91, 92, 93)
	before := slices.Clone(memory)
	return memory[:len(l)], func() bool { return slices.Equal(memory, before) }
}

// roomyGoods returns a copy of some goods, all lists of which have memory behind their ends, and a check whether all of that memory is as it was.
func roomyGoods(g api.Goods) (api.Goods, func() bool) {
	var memory [][]int
	var checks []func() bool
	for _, values := range append(slices.Clone(g.V), []int{94}, []int{95, 96}) {
		row, kept := roomy(values)
		memory, checks = append(memory, row), append(checks, kept)
	}
	// A list that is put in the place of another one has other memory, or at least another length.
	lists := slices.Clone(memory)
	kept := func() bool {
		for i, row := range memory {
			if !checks[i]() || len(row) != len(lists[i]) || len(row) > 0 && &row[0] != &lists[i][0] {
				return false
			}
		}
		return true
	}
	return api.Goods{V: memory[:len(g.V)]}, kept
}

// fill writes over all the memory of a list, also behind its end.
func fill[T any](l []T, x T) {
	l = l[:cap(l)]
	for i := range l {
		l[i] = x
	}
}

// callAll calls all functions.
func callAll(g api.Goods, a []int) {
	near.One(g, a)
	near.Any(g, a)
	near.Share(g, a)
}

// R2: no call changes its arguments, also behind their ends, and also if it has an error.
func TestOnlyRead(t *testing.T) {
	all := samples(300)
	for _, f := range badGoods() {
		all = append(all, judged{g: f.g, a: []int{0, 0}})
	}
	for _, j := range all {
		g, keptGoods := roomyGoods(j.g)
		for _, start := range append(noAllocations(len(j.g.V), j.a), j.a) {
			a, keptAllocation := roomy(start)
			callAll(g, a)
			if !keptAllocation() {
				t.Errorf("the allocation %v was changed", start)
			}
		}
		if !keptGoods() {
			t.Errorf("the goods %v were changed", j.g)
		}
	}
}

// R2: results share no memory with arguments, with each other, nor with those of other calls.
func TestOwnMemory(t *testing.T) {
	for _, j := range samples(100) {
		// The results of the first calls must stay as they are until the end.
		one, pairs, _ := near.One(j.g, j.a)
		against, _ := near.Any(j.g, j.a)
		share, helpless, _ := near.Share(j.g, j.a)
		strange := api.Mark{Agent: -7, Other: -7, Good: -7}
		for range 2 {
			checkJudged(t, j)
			l, missing, _ := near.One(j.g, j.a)
			fill(l, strange)
			fill(missing, [2]int{-7, -7})
			l, _ = near.Any(j.g, j.a)
			fill(l, strange)
			l, poor, _ := near.Share(j.g, j.a)
			fill(l, strange)
			fill(poor, -7)
		}
		checkJudged(t, j)
		checkJudged(t, judged{j.g, j.a, one, pairs, against, share, helpless})
	}
}

// R2: values that are the same memory for all agents, and an allocation that is also the values, are as good as others.
func TestSharedArguments(t *testing.T) {
	row := []int{1, 2, 0}
	g := goodsOf(row, row, row)
	checkJudged(t, judged{g: g, a: row, one: marks([3]int{0, 1, 0}, [3]int{0, 2, 1}, [3]int{1, 2, 1}), share: marks([3]int{0, 1, 0})})
	if !slices.Equal(row, []int{1, 2, 0}) {
		t.Errorf("the list was changed to %v", row)
	}
}

// R2: nothing is kept: each call has the same results again, also after others.
func TestNothingIsKept(t *testing.T) {
	all := samples(100)
	for range 2 {
		for _, j := range all {
			checkJudged(t, j)
			callAll(api.Goods{}, j.a)
			callAll(alike(api.MaxAgents, api.MaxGoods, 1), list(api.MaxGoods, 5))
		}
		slices.Reverse(all)
	}
}

// R3: nil and empty lists are the same.
func TestEmptyIsNil(t *testing.T) {
	for _, none := range [][]int{nil, {}} {
		for _, v := range [][][]int{nil, {}} {
			checkNone(t, api.Goods{V: v}, none, api.ErrBad)
		}
		for _, other := range [][]int{nil, {}} {
			checkJudged(t, judged{g: goodsOf(none, other), a: none})
			checkJudged(t, judged{g: goodsOf(none, none), a: other})
			checkNone(t, goodsOf(none, []int{1}), other, api.ErrBad)
			checkNone(t, goodsOf([]int{1}, none), other, api.ErrBad)
		}
		checkNone(t, goodsOf([]int{3}, []int{4}), none, api.ErrBad)
		checkNone(t, goodsOf(none, none), []int{0}, api.ErrBad)
	}
}
