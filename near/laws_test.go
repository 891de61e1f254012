package near_test

import (
	"math/rand"
	"slices"
	"testing"

	"parcener/api"
	"parcener/goods"
	"parcener/near"
)

// fairness is which notions hold for an allocation, as the functions tell it.
type fairness struct {
	envyFree, any, one, share bool
}

// fairnessOf asks for the fairness of an allocation.
func fairnessOf(t *testing.T, j judged) fairness {
	t.Helper()
	envies, e := goods.Envies(j.g, j.a)
	_, missing, oneError := near.One(j.g, j.a)
	against, anyError := near.Any(j.g, j.a)
	_, helpless, shareError := near.Share(j.g, j.a)
	if e != api.OK || oneError != api.OK || anyError != api.OK || shareError != api.OK {
		t.Fatalf("%v, %v: errors %v, %v, %v, %v", j.g, j.a, e, oneError, anyError, shareError)
	}
	return fairness{len(envies) == 0, len(against) == 0, len(missing) == 0, len(helpless) == 0}
}

// P17.4: without envy an allocation is fair up to any good, with this up to one good, and with this, if it is complete, proportional up to one good; nothing follows the other way round, nor the last one if it is not complete.
func TestNotionsFollow(t *testing.T) {
	var envyFree, onlyAny, onlyOne, onlyShare, incomplete int
	for _, j := range everything() {
		f := fairnessOf(t, j)
		complete := j.isComplete()
		if f.envyFree && !f.any || f.any && !f.one || complete && f.one && !f.share {
			t.Errorf("%v, %v: %+v", j.g, j.a, f)
		}
		switch {
		case f.envyFree:
			envyFree++
		case f.any:
			onlyAny++
		case f.one:
			onlyOne++
		case complete && f.share:
			onlyShare++
		}
		if !complete && f.one && !f.share {
			incomplete++
		}
	}
	if envyFree < 1000 || onlyAny < 1000 || onlyOne < 200 || onlyShare < 100 || incomplete < 100 {
		t.Errorf("too few cases of one kind: %d envy-free, %d only fair up to any good, %d up to one good, %d only proportional up to one good, %d incomplete ones that are not", envyFree, onlyAny, onlyOne, onlyShare, incomplete)
	}
}

// P17.4: with as many goods as agents, or fewer, each allocation in which nobody gets more than one is fair up to any good.
func TestNobodyHasTwo(t *testing.T) {
	r := rand.New(rand.NewSource(33))
	envious := 0
	for n := range api.MaxAgents {
		n++
		for range 300 {
			g, a := alike(n, r.Intn(n+1), 0), []int(nil)
			for agent := range g.V {
				g.V[agent] = randomValues(r, len(g.V[agent]), []int{1, 9, api.MaxValue}[r.Intn(3)])
			}
			for _, agent := range r.Perm(n)[:len(g.V[0])] {
				if r.Intn(4) == 0 {
					agent = -1
				}
				a = append(a, agent)
			}
			j := judge(g, a)
			f := fairnessOf(t, j)
			if !f.any || !f.one {
				t.Errorf("%v, %v: nobody has two goods, but %+v", g, a, f)
			}
			if !f.envyFree {
				envious++
			}
		}
	}
	if envious < 500 {
		t.Errorf("only %d allocations with envy", envious)
	}
}

// isSorted reports whether marks are in order by the first agent, and by the second one if it is asked for, each pair (or each first agent) once.
func isSorted(l []api.Mark, pairs bool) bool {
	for i, m := range l[min(1, len(l)):] {
		before := l[i]
		if m.Agent < before.Agent || m.Agent == before.Agent && (!pairs || m.Other <= before.Other) {
			return false
		}
	}
	return true
}

// P17.1, P17.2: the marks of One and its pairs are together all pairs with envy, each once and in order, and the marks of Any are for some of these.
func TestOneMarkForEachEnvy(t *testing.T) {
	for _, j := range samples(2000) {
		envies, _ := goods.Envies(j.g, j.a)
		ended, missing, _ := near.One(j.g, j.a)
		against, _ := near.Any(j.g, j.a)
		told := slices.Clone(missing)
		for _, m := range ended {
			told = append(told, [2]int{m.Agent, m.Other})
		}
		slices.SortFunc(told, func(p, q [2]int) int { return slices.Compare(p[:], q[:]) })
		if !slices.Equal(told, envies) || !isSorted(ended, true) || !isSorted(against, true) {
			t.Errorf("%v, %v: the envy is %v; One has %v, %v, Any %v", j.g, j.a, envies, ended, missing, against)
		}
		for _, m := range against {
			if !slices.Contains(envies, [2]int{m.Agent, m.Other}) {
				t.Errorf("%v, %v: Any has %v; the envy is %v", j.g, j.a, m, envies)
			}
		}
	}
}

// P17.1, P17.2: without the good of a mark of One the envy has ended, without that of Any it has not; goods of the same bundle in front of it do the opposite.
func TestTakenAway(t *testing.T) {
	check := func(j judged, m api.Mark, ends bool) {
		for good := range m.Good + 1 {
			if j.a[good] != m.Other {
				continue
			}
			without, _ := goods.Give(j.g, j.a, good, -1)
			left, e := goods.Envies(j.g, without)
			ended := !slices.Contains(left, [2]int{m.Agent, m.Other})
			if e != api.OK || ended != (ends == (good == m.Good)) {
				t.Errorf("%v, %v: the mark is %v, but without the good %d there is the envy %v", j.g, j.a, m, good, left)
			}
		}
		if j.a[m.Good] != m.Other {
			t.Errorf("%v, %v: the mark %v is with no good of the other one", j.g, j.a, m)
		}
	}
	for _, j := range samples(2000) {
		ended, _, _ := near.One(j.g, j.a)
		for _, m := range ended {
			check(j, m, true)
		}
		against, _ := near.Any(j.g, j.a)
		for _, m := range against {
			check(j, m, false)
		}
	}
}

// P17.3: the marks of Share and its agents are together all poor agents, each once and in order; who gets the good of its mark is not poor, who gets one in front of it is, and so is an agent without a mark, whatever it gets.
func TestGivenBesides(t *testing.T) {
	for _, j := range samples(2000) {
		poor, _ := goods.Poor(j.g, j.a)
		made, helpless, _ := near.Share(j.g, j.a)
		told := slices.Clone(helpless)
		// helps returns the first good that, given to an agent, leaves it not poor, or how many there are.
		helps := func(agent int) int {
			for good := range j.a {
				given, _ := goods.Give(j.g, j.a, good, agent)
				if left, _ := goods.Poor(j.g, given); !slices.Contains(left, agent) {
					return good
				}
			}
			return len(j.a)
		}
		for _, m := range made {
			told = append(told, m.Agent)
			if helps(m.Agent) != m.Good || m.Good < len(j.a) && j.a[m.Good] != m.Other {
				t.Errorf("%v, %v: the mark is %v, but the good %d helps", j.g, j.a, m, helps(m.Agent))
			}
		}
		for _, agent := range helpless {
			if helps(agent) < len(j.a) {
				t.Errorf("%v, %v: the agent %d has no mark, but the good %d helps", j.g, j.a, agent, helps(agent))
			}
		}
		slices.Sort(told)
		if !slices.Equal(told, poor) || !isSorted(made, false) || !slices.IsSorted(helpless) {
			t.Errorf("%v, %v: %v are poor; Share has %v, %v", j.g, j.a, poor, made, helpless)
		}
	}
}
