package rent_test

import (
	"math/rand"
	"slices"
	"testing"

	"parcener/api"
	"parcener/assign"
	"parcener/ratio"
	"parcener/rent"
	"parcener/room"
)

// foundLeases returns the fair lease and the calm one, after a check of what both must be: valid, without envy, with the best assignment, and with the smallest Den.
func foundLeases(t *testing.T, r api.Rooms) (fair, calm api.Lease) {
	t.Helper()
	best := bests(r.V)[0]
	fair, a := rent.Fair(r)
	calm, b := rent.Calm(r)
	for _, l := range []api.Lease{fair, calm} {
		if a != api.OK || b != api.OK || room.Valid(r, l) != api.OK || !slices.Equal(l.Room, best) || !isLeast(l) || !isEnvyFree(r, l) {
			t.Fatalf("Fair(%v) = %v, %v; Calm = %v, %v; the best assignment is %v", r, fair, a, calm, b, best)
		}
	}
	return fair, calm
}

// checkBest reports an envy-free lease that has a greater least gain than the fair lease, a smaller greatest gain than the calm one, or one of these gains with other gains of the agents. It tells whether it has the same ones.
func checkBest(t *testing.T, r api.Rooms, fair, calm, l api.Lease) (asFair, asCalm bool) {
	t.Helper()
	most, _ := worstIn(r, fair)
	_, least := worstIn(r, calm)
	low, high := worstIn(r, l)
	asFair, asCalm = low == most, high == least
	switch {
	case compared(low, most) > 0 || asFair && !slices.Equal(gainsIn(r, l), gainsIn(r, fair)):
		t.Fatalf("Fair(%v) = %v; the gains of %v are %v", r, fair, l, gainsIn(r, l))
	case compared(high, least) < 0 || asCalm && !slices.Equal(gainsIn(r, l), gainsIn(r, calm)):
		t.Fatalf("Calm(%v) = %v; the gains of %v are %v", r, calm, l, gainsIn(r, l))
	}
	return asFair, asCalm
}

// P15.1, P15.4: among all envy-free leases of small flats, with all assignments, the fair lease has the greatest least gain, and the calm one the smallest greatest gain, and only those with the same gains of all agents are as good.
func TestFairAndCalmAmongAll(t *testing.T) {
	differ, uneven := 0, 0
	for _, r := range smallFlats(3) {
		fair, calm := foundLeases(t, r)
		isFair, isCalm := 0, 0
		for _, l := range freeLeases(r, 3) {
			asFair, asCalm := checkBest(t, r, fair, calm, l)
			if asFair {
				isFair++
			}
			if asCalm {
				isCalm++
			}
		}
		if isFair == 0 || isCalm == 0 {
			t.Fatalf("%v: all leases are left out that are fair or calm", r)
		}
		if !slices.Equal(fair.Price, calm.Price) {
			differ++
		}
		if low, high := worstIn(r, fair); low != high {
			uneven++
		}
	}
	if differ < 20 || uneven < 100 {
		t.Errorf("too few cases of one kind: %d fair leases are not calm, and %d have different gains", differ, uneven)
	}
}

// P15.1, P15.4: no envy-free lease near to them, with any assignment, is better than the fair lease or the calm one of a random flat; as good ones have the same gains.
func TestNothingIsBetter(t *testing.T) {
	g := rand.New(rand.NewSource(23))
	others, later := 0, 0
	for _, r := range samples(1200) {
		fair, calm := foundLeases(t, r)
		for _, l := range nearLeases(g, r, fair, calm, mixed(g, []api.Lease{fair}), mixed(g, []api.Lease{calm})) {
			asFair, asCalm := checkBest(t, r, fair, calm, l)
			switch {
			case !asFair && !asCalm:
				others++
			case !slices.Equal(l.Room, fair.Room):
				later++
			}
		}
	}
	if others < 10000 || later < 1000 {
		t.Errorf("too few cases of one kind: %d leases are worse, %d are as good with other rooms", others, later)
	}
}

// reached returns the agents from whom a way leads to one of some agents, if each step of it leads from an agent to one whom it would envy if this one had any more, or the other way round if back is true.
func reached(r api.Rooms, l api.Lease, ends []int, back bool) []int {
	from := slices.Clone(ends)
	for i := 0; i < len(from); i++ {
		for agent := range r.V {
			wants, has := agent, from[i]
			if back {
				wants, has = has, wants
			}
			if !slices.Contains(from, agent) && gainOf(r, l, wants, l.Room[has]) == gainOf(r, l, wants, l.Room[wants]) {
				from = append(from, agent)
			}
		}
	}
	return from
}

// agentsWith returns the agents with a gain.
func agentsWith(r api.Rooms, l api.Lease, gain api.Ratio) []int {
	return slices.DeleteFunc(counted(len(r.V)), func(agent int) bool { return gainsIn(r, l)[agent] != gain })
}

// P15.1: from each agent a way leads to one with the least gain, on which each one wants the room of the next one just as much as its own: so nobody can gain less, nor any more be left for the least one. In the calm lease such ways lead from one with the greatest gain to each agent.
func TestWishesLeadToTheLeast(t *testing.T) {
	steps := 0
	for _, r := range append(samples(2500), smallFlats(3)...) {
		n := len(r.V)
		fair, calm := foundLeases(t, r)
		least, _ := worstIn(r, fair)
		_, most := worstIn(r, calm)
		low, high := agentsWith(r, fair, least), agentsWith(r, calm, most)
		if len(reached(r, fair, low, false)) != n {
			t.Fatalf("Fair(%v) = %v: somebody can gain less", r, fair)
		}
		if len(reached(r, calm, high, true)) != n {
			t.Fatalf("Calm(%v) = %v: somebody can gain more", r, calm)
		}
		if len(low) < n && len(high) < n {
			steps++
		}
	}
	if steps < 1000 {
		t.Errorf("only in %d flats there is somebody with another gain", steps)
	}
}

// P15.4: in the fair lease an agent whose gain is not the least one wants the room of another one just as much as its own.
func TestWantsAnotherRoom(t *testing.T) {
	wants := 0
	for _, r := range append(samples(1500), smallFlats(3)...) {
		fair, _ := rent.Fair(r)
		least, _ := worstIn(r, fair)
		for agent, gain := range gainsIn(r, fair) {
			if gain == least {
				continue
			}
			wants++
			if !slices.ContainsFunc(fair.Room, func(other int) bool {
				return other != fair.Room[agent] && gainOf(r, fair, agent, other) == gainOf(r, fair, agent, fair.Room[agent])
			}) {
				t.Fatalf("Fair(%v) = %v: the agent %d wants no other room", r, fair, agent)
			}
		}
	}
	if wants < 2000 {
		t.Errorf("only %d agents do not have the least gain", wants)
	}
}

// pricesOf returns the prices of a lease.
func pricesOf(l api.Lease) []api.Ratio {
	var prices []api.Ratio
	for _, price := range l.Price {
		prices = append(prices, q(price, l.Den))
	}
	return prices
}

// plus returns some ratios, all changed by the same.
func plus(l []api.Ratio, change api.Ratio) []api.Ratio {
	var sums []api.Ratio
	for _, x := range l {
		sum, _ := ratio.Add(x, change)
		sums = append(sums, sum)
	}
	return sums
}

// P15.4: another rent changes all prices of the fair lease and of the calm one by the same, and both ends of each stake the other way.
func TestAnotherRent(t *testing.T) {
	g := rand.New(rand.NewSource(24))
	for _, r := range samples(600) {
		fair, calm := foundLeases(t, r)
		n := len(r.V)
		for _, cents := range []int{0, api.MaxRent, r.Rent / 2, g.Intn(api.MaxRent + 1)} {
			other := api.Rooms{V: r.V, Rent: cents}
			more, less := q(cents-r.Rent, n), q(r.Rent-cents, n)
			fairer, calmer := foundLeases(t, other)
			if !slices.Equal(pricesOf(fairer), plus(pricesOf(fair), more)) || !slices.Equal(pricesOf(calmer), plus(pricesOf(calm), more)) {
				t.Errorf("with the rents %d and %d: Fair(%v) = %v, %v; Calm = %v, %v", r.Rent, cents, r.V, fair, fairer, calm, calmer)
			}
			for agent := range n {
				least, most, _ := rent.Stake(r, agent)
				ends := plus([]api.Ratio{least, most}, less)
				checkStake(t, other, agent, ends[0], ends[1])
			}
		}
	}
}

// P15.2: the least and the greatest gain are those of the definition, in leases of all kinds.
func TestWorstAmongAll(t *testing.T) {
	g := rand.New(rand.NewSource(25))
	envy := 0
	for _, r := range samples(1000) {
		fair, calm := foundLeases(t, r)
		for _, l := range nearLeases(g, r, fair, calm) {
			for range 2 {
				least, most := worstIn(r, l)
				checkWorst(t, r, l, least, most)
				if !isEnvyFree(r, l) {
					envy++
				}
				l = api.Lease{Room: g.Perm(len(r.V)), Price: l.Price, Den: l.Den}
			}
		}
	}
	if envy < 5000 {
		t.Errorf("only in %d leases there is envy", envy)
	}
}

// P15.3: the stakes are the least and the greatest gains in all envy-free leases of small flats with the best assignment.
func TestStakesAmongAll(t *testing.T) {
	wide := 0
	for _, r := range smallFlats(3) {
		best := bests(r.V)[0]
		var least, most []api.Ratio
		for _, l := range freeLeases(r, 3) {
			if !slices.Equal(l.Room, best) {
				continue
			}
			gains := gainsIn(r, l)
			if least == nil {
				least, most = gains, slices.Clone(gains)
			}
			for agent, gain := range gains {
				least[agent] = slices.MinFunc([]api.Ratio{least[agent], gain}, compared)
				most[agent] = slices.MaxFunc([]api.Ratio{most[agent], gain}, compared)
			}
		}
		for agent := range r.V {
			checkStake(t, r, agent, least[agent], most[agent])
			if least[agent] != most[agent] {
				wide++
			}
		}
	}
	if wide < 100 {
		t.Errorf("only %d stakes are not a single gain", wide)
	}
}

// P15.3: there are envy-free leases with the best assignment in which an agent has just the ends of its stake.
func TestEndsOfStakes(t *testing.T) {
	for _, r := range samples(1500) {
		cheap, dear := extremes(r)
		for agent, own := range bests(r.V)[0] {
			low, high := dear[own], cheap[own]
			if !isEnvyFree(r, low) || !isEnvyFree(r, high) {
				t.Fatalf("%v: there is envy in %v or %v", r, low, high)
			}
			checkStake(t, r, agent, gainsIn(r, low)[agent], gainsIn(r, high)[agent])
		}
	}
}

// P15.4: the gain of an agent in an envy-free lease, also with another assignment, is within its stake.
func TestGainsAreWithinStakes(t *testing.T) {
	g := rand.New(rand.NewSource(26))
	within, later := 0, 0
	for _, r := range samples(800) {
		fair, calm := foundLeases(t, r)
		for _, l := range nearLeases(g, r, fair, calm) {
			for agent, gain := range gainsIn(r, l) {
				least, most, e := rent.Stake(r, agent)
				if e != api.OK || compared(gain, least) < 0 || compared(gain, most) > 0 {
					t.Fatalf("Stake(%v, %d) = %v, %v, %v; the gains of %v are %v", r, agent, least, most, e, l, gainsIn(r, l))
				}
				within++
			}
			if !slices.Equal(l.Room, fair.Room) {
				later++
			}
		}
	}
	if within < 20000 || later < 1000 {
		t.Errorf("too few cases: %d gains, %d leases with other rooms", within, later)
	}
}

// raised returns the prices of a lease in cents, with the same amount added to all, so that none of them is less than 0.
func raised(l api.Lease) []int {
	least := min(0, slices.Min(l.Price))
	var prices []int
	for _, price := range l.Price {
		prices = append(prices, price-least)
	}
	return prices
}

// N2: the even, the fair and the calm lease have prices within the ranges of their rooms and gains within the stakes; where they are whole cents, they prove the best assignment, as far as it can be proved at all.
func TestRentsFitTogether(t *testing.T) {
	proofs := 0
	for _, r := range samples(700) {
		for more := range len(r.V) {
			// One of so many rents in a row leads to whole cents.
			r := api.Rooms{V: r.V, Rent: min(r.Rent, api.MaxRent-len(r.V)) + more}
			best, _, _ := assign.Best(r.V)
			even, _ := room.Even(r)
			fair, calm := foundLeases(t, r)
			for _, l := range []api.Lease{even, fair, calm} {
				for agent, own := range l.Room {
					cheap, dear, _ := room.Range(r, own)
					least, most, _ := rent.Stake(r, agent)
					price, gain := pricesOf(l)[own], gainsIn(r, l)[agent]
					if compared(price, cheap) < 0 || compared(price, dear) > 0 || compared(gain, least) < 0 || compared(gain, most) > 0 {
						t.Fatalf("%v: in %v the agent %d gains %v at the price %v", r, l, agent, gain, price)
					}
				}
				if l.Den == 1 {
					proofs++
					if ok, e := assign.Proves(r.V, best, raised(l)); !ok || e != api.OK {
						t.Fatalf("Proves(%v, %v, %v) = %v, %v", r, best, raised(l), ok, e)
					}
				}
			}
		}
	}
	if proofs < 2000 {
		t.Errorf("only %d leases have whole prices", proofs)
	}
}
