package assign_test

import (
	"math/rand"
	"slices"
	"testing"

	"parcener/api"
	"parcener/assign"
)

// proves reports whether prices prove an assignment, both of which are valid.
func proves(t *testing.T, v [][]int, a, p []int) bool {
	t.Helper()
	ok, e := assign.Proves(v, a, p)
	if e != api.OK {
		t.Fatalf("Proves(%v, %v, %v) = %v", v, a, p, e)
	}
	return ok
}

// P13.4: an assignment that some prices prove has the greatest value, and these prices are at least as great as the least ones.
func TestProvedIsGreatest(t *testing.T) {
	proved, others := 0, 0
	for _, v := range smallBids() {
		best, most, _ := assign.Best(v)
		least, _ := assign.Prices(v)
		for _, a := range permutations(len(v)) {
			value, _ := assign.Value(v, a)
			for _, p := range lists(len(v), 3) {
				if !proves(t, v, a, p) {
					continue
				}
				if value != most || !slices.Equal(leastOf([][]int{least, p}), least) {
					t.Fatalf("%v: %v is proved by %v; the least prices are %v", v, a, p, least)
				}
				proved++
				if !slices.Equal(a, best) {
					others++
				}
			}
		}
	}
	if proved < 10000 || others < 1000 {
		t.Errorf("too few cases of one kind: %d are proved, %d of them are not the best assignment", proved, others)
	}
}

// P13.4: the least prices prove all assignments of the greatest value, and no other one, and one of them is 0.
func TestLeastPricesProve(t *testing.T) {
	for _, v := range samples(500) {
		_, most, _ := assign.Best(v)
		least, _ := assign.Prices(v)
		if slices.Min(least) != 0 {
			t.Errorf("Prices(%v) = %v", v, least)
		}
		for _, a := range permutations(len(v)) {
			value, e := assign.Value(v, a)
			if e != api.OK || value > most {
				t.Fatalf("Value(%v, %v) = %v, %v; the greatest value is %v", v, a, value, e, most)
			}
			if proves(t, v, a, least) != (value == most) {
				t.Fatalf("Proves(%v, %v, %v) = %v with the value %v; the greatest one is %v", v, a, least, value != most, value, most)
			}
		}
	}
}

// P13.4: of prices near the least ones only those prove the best assignment of which none is less.
func TestNoLesserPrices(t *testing.T) {
	g := rand.New(rand.NewSource(15))
	proved := 0
	for _, v := range samples(1500) {
		best, _, _ := assign.Best(v)
		least, _ := assign.Prices(v)
		for range 20 {
			// Some prices fall and others rise, so little that it may be all the same to the agents.
			p := slices.Clone(least)
			for j := range p {
				p[j] = max(0, p[j]+g.Intn(7)-3)
			}
			if proves(t, v, best, p) {
				proved++
				if !slices.Equal(leastOf([][]int{least, p}), least) {
					t.Fatalf("%v: %v is proved by %v; the least prices are %v", v, best, p, least)
				}
			}
		}
	}
	if proved < 1500 {
		t.Errorf("only %d prices prove something", proved)
	}
}

// P13.4: the least price of the item of an agent is its harm.
func TestPriceIsHarm(t *testing.T) {
	paid := 0
	for _, v := range append(samples(3000), smallBids()...) {
		best, _, _ := assign.Best(v)
		least, _ := assign.Prices(v)
		harm, e := assign.Harm(v)
		if e != api.OK || len(harm) != len(v) {
			t.Fatalf("Harm(%v) = %v, %v", v, harm, e)
		}
		for agent, item := range best {
			if harm[agent] != least[item] {
				t.Errorf("%v: the harm is %v, the least prices of %v are %v", v, harm, best, least)
			}
			if harm[agent] > 0 {
				paid++
			}
		}
	}
	if paid < 2000 {
		t.Errorf("only %d agents harm others", paid)
	}
}

// P13.4: items in another order have the same greatest value.
func TestItemsInAnotherOrder(t *testing.T) {
	g := rand.New(rand.NewSource(16))
	for _, v := range samples(1500) {
		order := g.Perm(len(v))
		other := square(len(v), func(agent, item int) int { return v[agent][order[item]] })
		_, most, _ := assign.Best(v)
		if _, same, e := assign.Best(other); same != most || e != api.OK {
			t.Errorf("Best(%v) has the value %v, %v; Best(%v) has %v", other, same, e, v, most)
		}
	}
}
