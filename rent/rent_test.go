package rent_test

import (
	"math"
	"slices"
	"testing"

	"parcener/api"
	"parcener/rent"
)

// cases returns flats of which it is easily seen what must be found for them.
func cases() []solved {
	const most = api.MaxWorth
	rooms := func(rent int, v ...[]int) api.Rooms { return api.Rooms{V: v, Rent: rent} }
	same := func(r api.Rooms, l api.Lease, gains, least, most []api.Ratio) solved {
		return solved{r, l, l, gains, gains, least, most}
	}
	all := []solved{
		// the chapter's examples
		same(rooms(5, []int{5, 3}, []int{4, 1}), lease(2, []int{1, 0}, 7, 3), qs(2, 3, 1), qs(2, 3, 0), qs(2, 4, 1)),
		same(rooms(9, []int{8, 4}, []int{6, 6}), lease(2, []int{0, 1}, 11, 7), qs(2, 5, 5), qs(2, 3, 3), qs(2, 7, 7)),
		// The agent 0 gains much more, but would rather have the other room if that one cost any less.
		same(rooms(4, []int{9, 9}, []int{2, 1}), lease(1, []int{1, 0}, 2, 2), qs(1, 7, 0), qs(2, 14, -1), qs(2, 15, 0)),
		// In the fair lease the agent 0 gains more than both others, in the calm one the agent 2 gains less.
		{rooms(10, []int{6, 2, 1}, []int{5, 4, 0}, []int{3, 3, 0}), lease(3, []int{0, 1, 2}, 16, 13, 1), lease(3, []int{0, 1, 2}, 17, 11, 2), qs(3, 2, -1, -1), qs(3, 1, 1, -2), qs(3, 1, -1, -3), qs(3, 3, 1, -1)},
		// All can gain the same, though any one of them could gain less or more. Without a rent some are paid for their rooms.
		same(rooms(0, []int{4, 2, 0}, []int{0, 2, 0}, []int{0, 1, 1}), lease(3, []int{0, 1, 2}, 5, -1, -4), qs(3, 7, 7, 7), qs(3, 6, 2, 2), qs(3, 15, 8, 9)),
		// Both want the same room, so that all prices without envy are the same.
		same(rooms(0, []int{3, 0}, []int{3, 0}), lease(2, []int{0, 1}, 3, -3), qs(2, 3, 3), qs(2, 3, 3), qs(2, 3, 3)),
		// two best assignments, at the same prices
		same(rooms(1, []int{2, 1}, []int{1, 0}), lease(1, []int{0, 1}, 1, 0), qs(1, 1, 0), qs(1, 1, 0), qs(1, 1, 0)),
		// the greatest values, and the greatest rent
		same(rooms(0, []int{most, 0}, []int{most, 0}), lease(1, []int{0, 1}, most/2, -most/2), qs(2, most, most), qs(2, most, most), qs(2, most, most)),
		same(rooms(0, []int{most, 0}, []int{0, most}), lease(1, []int{0, 1}, 0, 0), qs(1, most, most), qs(2, most, most), qs(2, 3*most, 3*most)),
		same(rooms(api.MaxRent, []int{0, most}, []int{0, most}), lease(1, []int{0, 1}, 4500000, 5500000), qs(1, -4500000, -4500000), qs(1, -4500000, -4500000), qs(1, -4500000, -4500000)),
		same(rooms(api.MaxRent, []int{0, most}, []int{most, 0}), lease(1, []int{1, 0}, 5000000, 5000000), qs(1, -4000000, -4000000), qs(1, -4500000, -4500000), qs(1, -3500000, -3500000)),
		allBehind(),
	}
	for n := range api.MaxAgents {
		n++
		for _, rent := range []int{0, 1, 2, 3, 4, 5, 6, 60, api.MaxRent} {
			all = append(all, evenly(n, rent))
		}
	}
	return all
}

// evenly returns a flat of n agents to whom all rooms are the same, so that all of them cost the same.
func evenly(n, rent int) solved {
	each := q(rent, n)
	gains := slices.Repeat([]api.Ratio{q(7*n-rent, n)}, n)
	l := lease(int(each.Den), counted(n), list(n, int(each.Num))...)
	return solved{alike(n, 7, rent), l, l, gains, gains, gains, gains}
}

// allBehind returns the flat of six agents each of whom wants the room in front of its own one more: each one gains just so much more than the one in front of it.
func allBehind() solved {
	c := solved{r: api.Rooms{V: behind(6), Rent: 52}, fair: api.Lease{Room: counted(6), Den: 6}}
	for agent := range 6 {
		c.fair.Price = append(c.fair.Price, 97-18*agent)
		c.fairGains = append(c.fairGains, q(23+18*agent, 6))
		c.least = append(c.least, q(23*agent-2, 6))
		c.most = append(c.most, q(23*agent+23, 6))
	}
	c.calm, c.calmGains = c.fair, c.fairGains
	return c
}

// checkSolved reports a flat for which something is not found as it must be.
func checkSolved(t *testing.T, c solved) {
	t.Helper()
	if l, e := rent.Fair(c.r); !sameLease(l, c.fair) || e != api.OK {
		t.Errorf("Fair(%v) = %v, %v; want %v", c.r, l, e, c.fair)
	}
	if l, e := rent.Calm(c.r); !sameLease(l, c.calm) || e != api.OK {
		t.Errorf("Calm(%v) = %v, %v; want %v", c.r, l, e, c.calm)
	}
	for agent := range c.r.V {
		checkStake(t, c.r, agent, c.least[agent], c.most[agent])
	}
	checkWorst(t, c.r, c.fair, slices.MinFunc(c.fairGains, compared), slices.MaxFunc(c.fairGains, compared))
	checkWorst(t, c.r, c.calm, slices.MinFunc(c.calmGains, compared), slices.MaxFunc(c.calmGains, compared))
}

// checkStake reports the stake of an agent if it is not as it must be.
func checkStake(t *testing.T, r api.Rooms, agent int, least, most api.Ratio) {
	t.Helper()
	if a, b, e := rent.Stake(r, agent); a != least || b != most || e != api.OK {
		t.Errorf("Stake(%v, %d) = %v, %v, %v; want %v, %v", r, agent, a, b, e, least, most)
	}
}

// checkWorst reports the least and the greatest gain of a lease if they are not as they must be.
func checkWorst(t *testing.T, r api.Rooms, l api.Lease, least, most api.Ratio) {
	t.Helper()
	if a, b, e := rent.Worst(r, l); a != least || b != most || e != api.OK {
		t.Errorf("Worst(%v, %v) = %v, %v, %v; want %v, %v", r, l, a, b, e, least, most)
	}
}

// P15.1 to P15.3: fair and calm leases, their gains, and stakes that are easily seen.
func TestCases(t *testing.T) {
	for _, c := range cases() {
		checkSolved(t, c)
		if !slices.Equal(gainsIn(c.r, c.fair), c.fairGains) || !slices.Equal(gainsIn(c.r, c.calm), c.calmGains) {
			t.Errorf("%v: the gains are %v and %v", c.r, gainsIn(c.r, c.fair), gainsIn(c.r, c.calm))
		}
	}
}

// judged is a lease of a flat, with its least and its greatest gain.
type judged struct {
	r           api.Rooms
	l           api.Lease
	least, most api.Ratio
}

// leases returns leases of which it is easily seen who gains least, and who gains most.
func leases() []judged {
	const great = api.MaxPrice * api.MaxSplit
	example := cases()[0].r
	other := api.Rooms{V: [][]int{{6, 2, 1}, {5, 4, 0}, {3, 3, 0}}, Rent: 10}
	apart := api.Rooms{V: [][]int{{api.MaxWorth, 0}, {0, api.MaxWorth}}}
	return []judged{
		// the rooms the other way round, so that there is envy
		{example, lease(1, []int{0, 1}, 3, 2), q(-1, 1), q(2, 1)},
		{example, lease(1, []int{1, 0}, 4, 1), q(0, 1), q(2, 1)},
		// Ratios have lowest terms, also if the lease has not.
		{example, lease(60, []int{1, 0}, 210, 90), q(1, 2), q(3, 2)},
		{example, lease(60, []int{1, 0}, 209, 91), q(31, 60), q(89, 60)},
		{example, lease(59, []int{1, 0}, 236, 59), q(0, 1), q(2, 1)},
		// The least gain and the greatest one are in the midst, and all less than nothing.
		{other, lease(1, []int{0, 1, 2}, 5, 4, 1), q(-1, 1), q(1, 1)},
		{other, lease(1, []int{1, 0, 2}, 5, 4, 1), q(-2, 1), q(0, 1)},
		{other, lease(3, []int{1, 2, 0}, 10, 10, 10), q(-10, 3), q(-1, 3)},
		// the greatest prices
		{apart, lease(60, []int{0, 1}, great, -great), q(api.MaxWorth-api.MaxPrice, 1), q(api.MaxWorth+api.MaxPrice, 1)},
		{apart, lease(60, []int{1, 0}, great, -great), q(-api.MaxPrice, 1), q(api.MaxPrice, 1)},
		{apart, lease(59, []int{1, 0}, 1, -1), q(-1, 59), q(1, 59)},
		// alone
		{api.Rooms{V: [][]int{{9}}, Rent: 4}, lease(5, []int{0}, 20), q(5, 1), q(5, 1)},
		{api.Rooms{V: [][]int{{0}}, Rent: api.MaxRent}, lease(60, []int{0}, great), q(-api.MaxRent, 1), q(-api.MaxRent, 1)},
	}
}

// P15.2: least and greatest gains that are easily seen.
func TestWorst(t *testing.T) {
	for _, c := range leases() {
		checkWorst(t, c.r, c.l, c.least, c.most)
	}
}

// checkBadFlat reports a function that does not have the error of a flat, or has anything beside it.
func checkBadFlat(t *testing.T, r api.Rooms, want api.Errno) {
	t.Helper()
	if l, e := rent.Fair(r); !sameLease(l, api.Lease{}) || e != want {
		t.Errorf("Fair(%v) = %v, %v; want %v", r, l, e, want)
	}
	if l, e := rent.Calm(r); !sameLease(l, api.Lease{}) || e != want {
		t.Errorf("Calm(%v) = %v, %v; want %v", r, l, e, want)
	}
	for _, agent := range []int{0, len(r.V) - 1, -1, len(r.V), math.MinInt, math.MaxInt} {
		checkNoStake(t, r, agent, want)
	}
	n := len(r.V)
	for _, l := range []api.Lease{{}, lease(n, counted(n), list(n, r.Rent)...), lease(1, counted(n), list(n, 0)...), lease(-1, []int{-1}, math.MinInt)} {
		checkNoWorst(t, r, l, want)
	}
}

// checkNoStake reports the stake of an agent if it does not have an error, or anything beside it.
func checkNoStake(t *testing.T, r api.Rooms, agent int, want api.Errno) {
	t.Helper()
	if least, most, e := rent.Stake(r, agent); least != (api.Ratio{}) || most != (api.Ratio{}) || e != want {
		t.Errorf("Stake(%v, %d) = %v, %v, %v; want %v", r, agent, least, most, e, want)
	}
}

// checkNoWorst reports the least and the greatest gain of a lease if they do not have an error, or anything beside it.
func checkNoWorst(t *testing.T, r api.Rooms, l api.Lease, want api.Errno) {
	t.Helper()
	if least, most, e := rent.Worst(r, l); least != (api.Ratio{}) || most != (api.Ratio{}) || e != want {
		t.Errorf("Worst(%v, %v) = %v, %v, %v; want %v", r, l, least, most, e, want)
	}
}

// P15.1 to P15.3: the error of a flat comes first, ahead of any error of a lease or an agent.
func TestBadFlats(t *testing.T) {
	for _, f := range badFlats() {
		checkBadFlat(t, f.r, f.e)
	}
}

// P15.2: what is no valid lease is ErrBad.
func TestBadLeases(t *testing.T) {
	for n := range api.MaxAgents {
		for _, rent := range []int{0, 1, 30, 1000000, api.MaxRent} {
			r := alike(n+1, 5, rent)
			for _, l := range badLeases(r) {
				checkNoWorst(t, r, l, api.ErrBad)
			}
		}
	}
}

// P15.3: what is no agent is ErrArg.
func TestStakeOfNone(t *testing.T) {
	for _, r := range samples(100) {
		n := len(r.V)
		for _, agent := range []int{-1, -n, n, n + 1, api.MaxAgents, 64, math.MinInt, math.MaxInt} {
			checkNoStake(t, r, agent, api.ErrArg)
		}
	}
}
