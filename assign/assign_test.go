package assign_test

import (
	"math"
	"slices"
	"testing"

	"parcener/api"
	"parcener/assign"
)

// cases returns bids of which it is easily seen what must be found for them.
func cases() []solved {
	const most = api.MaxWorth
	all := []solved{
		// the chapter's examples
		{[][]int{{5, 3}, {4, 1}}, []int{1, 0}, 7, []int{2, 0}, []int{0, 2}},
		{[][]int{{1, 1}, {1, 1}}, []int{0, 1}, 2, []int{0, 0}, []int{0, 0}},
		// Alone an agent has the only item for nothing.
		{[][]int{{0}}, []int{0}, 0, []int{0}, []int{0}},
		{[][]int{{9}}, []int{0}, 9, []int{0}, []int{0}},
		{[][]int{{most}}, []int{0}, most, []int{0}, []int{0}},
		// Of several best assignments the first one is found, the first one of all or not.
		{[][]int{{2, 1}, {1, 0}}, []int{0, 1}, 2, []int{1, 0}, []int{1, 0}},
		{[][]int{{0, 1, 1}, {1, 0, 1}, {1, 1, 0}}, []int{1, 2, 0}, 3, []int{0, 0, 0}, []int{0, 0, 0}},
		{[][]int{{3, 3, 0}, {0, 0, 0}, {3, 3, 0}}, []int{0, 2, 1}, 6, []int{0, 0, 0}, []int{0, 0, 0}},
		{[][]int{{0, 0, 7}, {0, 0, 0}, {0, 0, 0}}, []int{2, 0, 1}, 7, []int{0, 0, 0}, []int{0, 0, 0}},
		// One item that all want goes to the one who gives most for it, at the second price.
		{[][]int{{0, 0, 3}, {0, 0, 7}, {0, 0, 5}}, []int{0, 2, 1}, 7, []int{0, 0, 5}, []int{0, 5, 0}},
		{[][]int{{4, 0}, {4, 0}}, []int{0, 1}, 4, []int{4, 0}, []int{4, 0}},
		{[][]int{{most, 0}, {most, 0}}, []int{0, 1}, most, []int{most, 0}, []int{most, 0}},
		// A price holds up another one.
		{[][]int{{10, 0, 0}, {10, 8, 0}, {0, 8, 5}}, []int{0, 1, 2}, 23, []int{5, 3, 0}, []int{5, 3, 0}},
		{behind(6), []int{0, 1, 2, 3, 4, 5}, 120, []int{15, 12, 9, 6, 3, 0}, []int{15, 12, 9, 6, 3, 0}},
		// Whoever takes the best thing for itself at once does not get the greatest value.
		{[][]int{{9, 8, 0}, {9, 2, 1}, {5, 4, 3}}, []int{1, 0, 2}, 20, []int{2, 1, 0}, []int{1, 2, 0}},
	}
	for n := range api.MaxAgents {
		n++
		nothing := list(n, 0)
		back := counted(n)
		slices.Reverse(back)
		one := square(n, func(agent, item int) int {
			if item == back[agent] {
				return most
			}
			return 0
		})
		all = append(all, solved{alike(n, most), counted(n), n * most, nothing, nothing}, solved{alike(n, 0), counted(n), 0, nothing, nothing}, solved{one, back, n * most, nothing, nothing})
	}
	return all
}

// P13.1: bids of as many agents as there may be, and with the least and the greatest values, are valid.
func TestCheck(t *testing.T) {
	for _, v := range samples(300) {
		if e := assign.Check(v); e != api.OK {
			t.Errorf("Check(%v) = %v", v, e)
		}
	}
}

// P13.1: what are no valid bids has an error, ErrMany ahead of ErrBad.
func TestCheckOfBadBids(t *testing.T) {
	for _, f := range badBids() {
		if e := assign.Check(f.v); e != f.e {
			t.Errorf("Check(%v) = %v; want %v", f.v, e, f.e)
		}
	}
}

// P13.1: values of the best assignments, and of others.
func TestValue(t *testing.T) {
	for _, c := range cases() {
		if n, e := assign.Value(c.v, c.best); n != c.value || e != api.OK {
			t.Errorf("Value(%v, %v) = %v, %v; want %v", c.v, c.best, n, e, c.value)
		}
	}
	three := [][]int{{1, 20, 300}, {4000, 50000, 600000}, {70, 8, 9}}
	for _, c := range []struct {
		a     []int
		value int
	}{
		{[]int{0, 1, 2}, 50010}, {[]int{0, 2, 1}, 600009}, {[]int{1, 0, 2}, 4029}, {[]int{1, 2, 0}, 600090}, {[]int{2, 0, 1}, 4308}, {[]int{2, 1, 0}, 50370},
	} {
		if n, e := assign.Value(three, c.a); n != c.value || e != api.OK {
			t.Errorf("Value(%v, %v) = %v, %v; want %v", three, c.a, n, e, c.value)
		}
	}
}

// P13.1: a list that is no assignment has no value.
func TestValueOfNone(t *testing.T) {
	for _, c := range cases() {
		for _, a := range noAssignments(len(c.v)) {
			if n, e := assign.Value(c.v, a); n != 0 || e != api.ErrBad {
				t.Errorf("Value(%v, %v) = %v, %v", c.v, a, n, e)
			}
		}
	}
}

// checkBest reports the best assignment of bids if it is not as it must be.
func checkBest(t *testing.T, v [][]int, best []int, value int) {
	t.Helper()
	if a, n, e := assign.Best(v); !slices.Equal(a, best) || n != value || e != api.OK {
		t.Errorf("Best(%v) = %v, %v, %v; want %v, %v", v, a, n, e, best, value)
	}
}

// checkPrices reports the least prices of bids if they are not as they must be.
func checkPrices(t *testing.T, v [][]int, price []int) {
	t.Helper()
	if p, e := assign.Prices(v); !slices.Equal(p, price) || e != api.OK {
		t.Errorf("Prices(%v) = %v, %v; want %v", v, p, e, price)
	}
}

// checkHarm reports the harm for bids if it is not as it must be.
func checkHarm(t *testing.T, v [][]int, harm []int) {
	t.Helper()
	if h, e := assign.Harm(v); !slices.Equal(h, harm) || e != api.OK {
		t.Errorf("Harm(%v) = %v, %v; want %v", v, h, e, harm)
	}
}

// P13.2, P13.3: best assignments, least prices and harm that are easily seen.
func TestCases(t *testing.T) {
	for _, c := range cases() {
		checkBest(t, c.v, c.best, c.value)
		checkPrices(t, c.v, c.price)
		checkHarm(t, c.v, c.harm)
	}
}

// P13.2: the best assignment is the first one of the greatest value among all.
func TestBestIsFirst(t *testing.T) {
	tied, later := 0, 0
	for _, v := range samples(1500) {
		best, value := bestOf(v, nobody)
		checkBest(t, v, best, value)
		same := slices.DeleteFunc(permutations(len(v)), func(a []int) bool { return worthTo(v, a, nobody) != value })
		if len(same) > 1 {
			tied++
		}
		if !slices.IsSorted(best) {
			later++
		}
	}
	if tied < 400 || later < 700 {
		t.Errorf("too few cases of one kind: %d with several best assignments, %d with one that is not the first of all", tied, later)
	}
}

// P13.2: the least prices are the least ones, item by item, of all that prove the best assignment.
func TestPricesAmongAll(t *testing.T) {
	for _, v := range smallBids() {
		best, _ := bestOf(v, nobody)
		checkPrices(t, v, leastOf(proving(v, best, 5)))
	}
}

// P13.2: the least prices prove the best assignment, and each of them is held up by others, down from one that is 0.
func TestPricesAreLeast(t *testing.T) {
	chained := 0
	for _, v := range samples(1500) {
		best, _ := bestOf(v, nobody)
		p, e := assign.Prices(v)
		if e != api.OK || len(p) != len(v) || slices.Min(p) < 0 || slices.Max(p) > api.MaxPrice {
			t.Fatalf("Prices(%v) = %v, %v", v, p, e)
		}
		if !isProof(v, best, p) || len(heldUp(v, best, p)) < len(p) {
			t.Errorf("Prices(%v) = %v, of which these cannot be less: %v", v, p, heldUp(v, best, p))
		}
		different := slices.Clone(p)
		slices.Sort(different)
		if len(slices.Compact(different)) > 3 {
			chained++
		}
	}
	if chained < 100 {
		t.Errorf("only %d cases have many different prices", chained)
	}
}

// P13.3: proofs that are easily seen.
func TestProves(t *testing.T) {
	const most = api.MaxPrice
	example, equal := [][]int{{5, 3}, {4, 1}}, [][]int{{1, 1}, {1, 1}}
	for _, c := range []struct {
		v    [][]int
		a, p []int
		want bool
	}{
		// the chapter's examples
		{example, []int{1, 0}, []int{2, 0}, true},
		{example, []int{1, 0}, []int{3, 0}, true},
		{example, []int{1, 0}, []int{4, 0}, false},
		{equal, []int{0, 1}, []int{0, 0}, true},
		// only the difference matters, up to the greatest prices
		{example, []int{1, 0}, []int{1, 0}, false},
		{example, []int{1, 0}, []int{0, 0}, false},
		{example, []int{1, 0}, []int{0, 2}, false},
		{example, []int{1, 0}, []int{most, most - 2}, true},
		{example, []int{1, 0}, []int{most, most - 3}, true},
		{example, []int{1, 0}, []int{most, most - 1}, false},
		{example, []int{1, 0}, []int{most, most - 4}, false},
		{example, []int{1, 0}, []int{most, 0}, false},
		{example, []int{1, 0}, []int{0, most}, false},
		// what has not the greatest value is never proved
		{example, []int{0, 1}, []int{0, 0}, false},
		{example, []int{0, 1}, []int{2, 0}, false},
		{example, []int{0, 1}, []int{3, 0}, false},
		// one of the greatest value is proved, also if it is not the first one
		{equal, []int{1, 0}, []int{0, 0}, true},
		{equal, []int{1, 0}, []int{7, 7}, true},
		{equal, []int{1, 0}, []int{7, 8}, false},
		{equal, []int{1, 0}, []int{8, 7}, false},
		// Prices may be greater than all values.
		{[][]int{{0}}, []int{0}, []int{most}, true},
		{[][]int{{9}}, []int{0}, []int{0}, true},
		// the last agent would rather have the first item, or the first one the last item
		{alike(6, 5), counted(6), []int{4, 5, 5, 5, 5, 5}, false},
		{alike(6, 5), counted(6), []int{5, 5, 5, 5, 5, 4}, false},
		{alike(6, 5), counted(6), list(6, 5), true},
		{behind(6), counted(6), []int{15, 12, 9, 6, 3, 0}, true},
		{behind(6), counted(6), []int{14, 12, 9, 6, 3, 0}, false},
		{behind(6), counted(6), []int{15, 12, 9, 6, 2, 0}, false},
	} {
		if got, e := assign.Proves(c.v, c.a, c.p); got != c.want || e != api.OK {
			t.Errorf("Proves(%v, %v, %v) = %v, %v; want %v", c.v, c.a, c.p, got, e, c.want)
		}
	}
}

// P13.3: prices prove an assignment exactly if no agent would rather have another item.
func TestProvesAll(t *testing.T) {
	proved, not := 0, 0
	for _, v := range smallBids()[:400] {
		for _, a := range permutations(len(v)) {
			for _, p := range lists(len(v), 4) {
				want := isProof(v, a, p)
				if got, e := assign.Proves(v, a, p); got != want || e != api.OK {
					t.Fatalf("Proves(%v, %v, %v) = %v, %v; want %v", v, a, p, got, e, want)
				}
				if want {
					proved++
				} else {
					not++
				}
			}
		}
	}
	if proved < 1000 || not < 1000 {
		t.Errorf("too few cases of one kind: %d are proved, %d are not", proved, not)
	}
}

// P13.3: what is no assignment, or no prices, is ErrBad.
func TestProvesNothing(t *testing.T) {
	for _, c := range cases() {
		n := len(c.v)
		check := func(a, p []int) {
			if ok, e := assign.Proves(c.v, a, p); ok || e != api.ErrBad {
				t.Errorf("Proves(%v, %v, %v) = %v, %v", c.v, a, p, ok, e)
			}
		}
		for _, a := range noAssignments(n) {
			check(a, c.price)
			check(a, list(n, api.MaxPrice))
			check(a, nil)
		}
		for _, p := range noPrices(n) {
			check(c.best, p)
			check(list(n, -1), p)
		}
	}
}

// P13.3: the harm of an agent is what the others could have more without it.
func TestHarmAmongAll(t *testing.T) {
	for _, v := range samples(700) {
		checkHarm(t, v, harmsOf(v))
	}
	for _, v := range smallBids() {
		checkHarm(t, v, harmsOf(v))
	}
}

// P13.1 to P13.3: the error of bids comes first, ahead of that of an assignment and of prices, with zero values.
func TestBadBids(t *testing.T) {
	for _, f := range badBids() {
		v := f.v
		for _, a := range [][]int{counted(len(v)), nil, {0}, {math.MinInt, math.MaxInt}} {
			if n, e := assign.Value(v, a); n != 0 || e != f.e {
				t.Errorf("Value(%v, %v) = %v, %v; want %v", v, a, n, e, f.e)
			}
			for _, p := range [][]int{list(len(v), 0), nil, {-1}} {
				if ok, e := assign.Proves(v, a, p); ok || e != f.e {
					t.Errorf("Proves(%v, %v, %v) = %v, %v; want %v", v, a, p, ok, e, f.e)
				}
			}
		}
		if a, n, e := assign.Best(v); len(a) != 0 || n != 0 || e != f.e {
			t.Errorf("Best(%v) = %v, %v, %v; want %v", v, a, n, e, f.e)
		}
		if p, e := assign.Prices(v); len(p) != 0 || e != f.e {
			t.Errorf("Prices(%v) = %v, %v; want %v", v, p, e, f.e)
		}
		if h, e := assign.Harm(v); len(h) != 0 || e != f.e {
			t.Errorf("Harm(%v) = %v, %v; want %v", v, h, e, f.e)
		}
	}
}
