package assign_test

import (
	"math"
	"slices"
	"testing"

	"parcener/api"
	"parcener/assign"
)

// roomy returns a copy of a list that has memory behind its end, and a check whether all of that memory is as it was.
func roomy(l []int) (list []int, kept func() bool) {
	memory := append(slices.Clone(l), 91, 92, 93)
	before := slices.Clone(memory)
	return memory[:len(l)], func() bool { return slices.Equal(memory, before) }
}

// roomyBids returns a copy of some bids, all lists of which have memory behind their ends, and a check whether all of that memory is as it was.
func roomyBids(v [][]int) ([][]int, func() bool) {
	var checks []func() bool
	var memory [][]int
	for _, bids := range append(slices.Clone(v), []int{94}, []int{95, 96}) {
		row, kept := roomy(bids)
		memory = append(memory, row)
		checks = append(checks, kept)
	}
	before := copied(memory)
	checks = append(checks, func() bool { return sameLists(memory, before) })
	return memory[:len(v)], func() bool { return !slices.ContainsFunc(checks, func(kept func() bool) bool { return !kept() }) }
}

// fill writes over all the memory of a list, also behind its end.
func fill(l []int) {
	l = l[:cap(l)]
	for i := range l {
		l[i] = -7
	}
}

// R2: no call changes its arguments, also behind their ends, and also if it has an error.
func TestOnlyRead(t *testing.T) {
	all := samples(200)
	for _, f := range badBids() {
		all = append(all, f.v)
	}
	for _, v := range all {
		n := len(v)
		bids, keptBids := roomyBids(v)
		for _, first := range [][]int{counted(n), list(n, 0), {0}, {1, 0}, nil} {
			a, keptAssignment := roomy(first)
			for _, second := range [][]int{list(n, 0), counted(n), list(n, -1), {1}, nil} {
				p, keptPrices := roomy(second)
				assign.Proves(bids, a, p)
				if !keptPrices() {
					t.Errorf("the prices %v were changed", second)
				}
			}
			assign.Value(bids, a)
			if !keptAssignment() {
				t.Errorf("the assignment %v was changed", first)
			}
		}
		assign.Check(bids)
		assign.Best(bids)
		assign.Prices(bids)
		assign.Harm(bids)
		if !keptBids() || !sameLists(bids, v) {
			t.Errorf("the bids %v were changed", v)
		}
	}
}

// R2: results share no memory with arguments, nor with those of other calls.
func TestOwnMemory(t *testing.T) {
	for _, c := range cases() {
		v := copied(c.v)
		for range 2 {
			best, _, _ := assign.Best(v)
			again, _, _ := assign.Best(v)
			price, _ := assign.Prices(v)
			prices, _ := assign.Prices(v)
			harm, _ := assign.Harm(v)
			harms, _ := assign.Harm(v)
			fill(best)
			fill(price)
			fill(harm)
			if !slices.Equal(again, c.best) || !slices.Equal(prices, c.price) || !slices.Equal(harms, c.harm) || !sameLists(v, c.v) {
				t.Errorf("%v: two calls share memory", c)
			}
		}
	}
}

// R2: bids whose lists are the same memory, and an assignment that is also the prices, are as good as others.
func TestSharedArguments(t *testing.T) {
	row := []int{4, 2, 7}
	v := [][]int{row, row, row}
	checkBest(t, v, []int{0, 1, 2}, 13)
	checkPrices(t, v, []int{2, 0, 5})
	checkHarm(t, v, []int{2, 0, 5})
	if !slices.Equal(row, []int{4, 2, 7}) {
		t.Errorf("the list was changed to %v", row)
	}
	steps := square(3, func(_, item int) int { return item })
	for _, a := range permutations(3) {
		if ok := proves(t, steps, a, []int{0, 1, 2}); !ok {
			t.Errorf("Proves(%v, %v, 0 1 2) = false", steps, a)
		}
	}
	order := []int{0, 1, 2}
	if ok := proves(t, steps, order, order); !ok || !slices.Equal(order, []int{0, 1, 2}) {
		t.Errorf("Proves(%v) = %v, with the lists %v", steps, ok, order)
	}
}

// R2: nothing is kept: each call has the same results again, also after others.
func TestNothingIsKept(t *testing.T) {
	all := cases()
	for range 2 {
		for _, c := range all {
			checkBest(t, c.v, c.best, c.value)
			checkPrices(t, c.v, c.price)
			checkHarm(t, c.v, c.harm)
			if ok := proves(t, c.v, c.best, c.price); !ok {
				t.Errorf("Proves(%v, %v, %v) = false", c.v, c.best, c.price)
			}
			assign.Value(c.v, list(9, 9))
			assign.Prices([][]int{{math.MinInt}})
			assign.Harm(nil)
		}
		slices.Reverse(all)
	}
}

// R3: nil and empty lists are the same.
func TestEmptyIsNil(t *testing.T) {
	one := [][]int{{3}}
	for _, none := range [][]int{nil, {}} {
		for _, v := range [][][]int{nil, {}, {none}, {none, none}, {{1, 2}, none}} {
			for _, e := range []api.Errno{errorOf(assign.Value(v, none)), errorOf(assign.Proves(v, none, none)), errorOf(assign.Prices(v)), errorOf(assign.Harm(v)), assign.Check(v)} {
				if e != api.ErrBad {
					t.Errorf("the bids %v have the error %v", v, e)
				}
			}
			if a, n, e := assign.Best(v); len(a) != 0 || n != 0 || e != api.ErrBad {
				t.Errorf("Best(%v) = %v, %v, %v", v, a, n, e)
			}
		}
		for _, e := range []api.Errno{errorOf(assign.Value(one, none)), errorOf(assign.Proves(one, none, []int{0})), errorOf(assign.Proves(one, []int{0}, none))} {
			if e != api.ErrBad {
				t.Errorf("empty lists for %v have the error %v", one, e)
			}
		}
	}
}

// errorOf returns the error of a call.
func errorOf[T any](_ T, e api.Errno) api.Errno { return e }
