package goods_test

import (
	"math/rand"
	"slices"
	"testing"

	"parcener/api"
	"parcener/goods"
)

// P16.1, P16.2: values, envy and poor agents are those of the definitions, in all allocations of small goods and in random ones.
func TestJudgedAmongAll(t *testing.T) {
	envious, poor, fair := 0, 0, 0
	for _, j := range append(smallAllocations(), samples(3000)...) {
		checkJudged(t, j)
		if len(j.pairs) > 0 {
			envious++
		}
		if len(j.poor) > 0 {
			poor++
		}
		if len(j.pairs) == 0 && len(j.poor) == 0 {
			fair++
		}
	}
	if envious < 2000 || poor < 2000 || fair < 1000 {
		t.Errorf("too few cases of one kind: %d with envy, %d with poor agents, %d with neither", envious, poor, fair)
	}
}

// P16.4: a complete allocation that is envy-free is proportional, and with two agents the other way round; with more agents, or goods that nobody gets, neither follows.
func TestEnvyAndShares(t *testing.T) {
	envyFree, shared, without, unshared := 0, 0, 0, 0
	for _, j := range append(smallAllocations(), samples(3000)...) {
		pairs, _ := goods.Envies(j.g, j.a)
		poor, _ := goods.Poor(j.g, j.a)
		if !j.isComplete() {
			if len(pairs) == 0 && len(poor) > 0 {
				unshared++
			}
			continue
		}
		if len(pairs) == 0 {
			envyFree++
			if len(poor) > 0 {
				t.Errorf("%v, %v: there is no envy, but %v are poor", j.g, j.a, poor)
			}
		}
		if len(poor) == 0 && len(pairs) > 0 {
			without++
			if len(j.g.V) == 2 {
				t.Errorf("%v, %v: nobody is poor, but there is the envy %v", j.g, j.a, pairs)
			}
		}
		if len(poor) == 0 && len(j.g.V) == 2 {
			shared++
		}
	}
	if envyFree < 500 || shared < 200 || without < 20 || unshared < 500 {
		t.Errorf("too few cases of one kind: %d envy-free, %d proportional for two agents, %d proportional with envy, %d incomplete without envy, with poor agents", envyFree, shared, without, unshared)
	}
}

// P16.4: the values of all bundles and of what nobody gets add up to that of all goods: in a complete allocation those of the bundles alone.
func TestValuesAddUp(t *testing.T) {
	complete, not := 0, 0
	for _, j := range append(smallAllocations(), samples(3000)...) {
		values, e := goods.Values(j.g, j.a)
		if e != api.OK || len(values) != len(j.g.V) {
			t.Fatalf("Values(%v, %v) = %v, %v", j.g, j.a, values, e)
		}
		for i, worth := range j.g.V {
			left := 0
			for good, agent := range j.a {
				if agent < 0 {
					left += worth[good]
				}
			}
			if len(values[i]) != len(j.g.V) || total(values[i])+left != total(worth) {
				t.Errorf("Values(%v, %v) = %v: for the agent %d all is worth %d, and what is left %d", j.g, j.a, values, i, total(worth), left)
			}
		}
		if j.isComplete() {
			complete++
		} else {
			not++
		}
	}
	if complete < 1000 || not < 1000 {
		t.Errorf("too few cases of one kind: %d are complete, %d are not", complete, not)
	}
}

// P16.4: after passing bundles along an order each bundle, and so that of each agent itself, is worth for all agents what that of the other one was before.
func TestPassedValues(t *testing.T) {
	moved := 0
	for _, j := range samples(400) {
		n := len(j.g.V)
		for _, order := range orders(min(n, 4)) {
			for k := len(order); k < n; k++ {
				order = append(order, k)
			}
			passed, e := goods.Pass(j.g, j.a, order)
			if e != api.OK {
				t.Fatalf("Pass(%v, %v, %v) = %v", j.g, j.a, order, e)
			}
			before, _ := goods.Values(j.g, j.a)
			after, e := goods.Values(j.g, passed)
			if e != api.OK {
				t.Fatalf("Pass(%v, %v, %v) = %v: %v", j.g, j.a, order, passed, e)
			}
			for i := range n {
				for k, other := range order {
					if after[i][k] != before[i][other] {
						t.Errorf("%v, %v: after passing along %v the values are %v; before %v", j.g, j.a, order, after, before)
					}
				}
			}
			if !slices.Equal(passed, j.a) {
				moved++
			}
		}
	}
	if moved < 1000 {
		t.Errorf("only %d times bundles were passed to others", moved)
	}
}

// P16.3: in all allocations of small goods along all orders the agent i gets the goods that the agent order[i] had, and nothing else changes.
func TestPassAmongAll(t *testing.T) {
	for _, j := range smallAllocations() {
		for _, order := range orders(len(j.g.V)) {
			want := list(len(j.a), -1)
			for agent, other := range order {
				for good := range j.a {
					if j.a[good] == other {
						want[good] = agent
					}
				}
			}
			checkPass(t, j.g, j.a, order, want)
		}
	}
}

// P16.3: passing back along the opposite order undoes passing.
func TestPassBack(t *testing.T) {
	r := rand.New(rand.NewSource(25))
	for _, j := range samples(1000) {
		order := r.Perm(len(j.g.V))
		back := slices.Clone(order)
		for agent, other := range order {
			back[other] = agent
		}
		passed, _ := goods.Pass(j.g, j.a, order)
		checkPass(t, j.g, passed, back, j.a)
	}
}

// P16.3: what is given is with its agent, and with nobody else; nothing else changes, and giving it back undoes it.
func TestGiveAmongAll(t *testing.T) {
	for _, j := range append(smallAllocations(), samples(300)...) {
		for good, owner := range j.a {
			for agent := -1; agent < len(j.g.V); agent++ {
				want := changed(j.a, good, agent)
				checkGive(t, j.g, j.a, good, agent, want)
				checkGive(t, j.g, want, good, owner, j.a)
			}
		}
	}
}
