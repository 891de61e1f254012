package room_test

import (
	"math"
	"slices"
	"testing"

	"parcener/api"
	"parcener/room"
)

// cases returns flats of which it is easily seen what must be found for them.
func cases() []solved {
	const most = api.MaxWorth
	all := []solved{
		// the chapter's example
		{api.Rooms{V: [][]int{{5, 3}, {4, 1}}, Rent: 5}, api.Lease{Room: []int{1, 0}, Price: []int{7, 3}, Den: 2}, []int{3, 1}, [][]int{{0, -3}, {2, 0}}, qs(2, 7, 2), qs(2, 8, 3)},
		// The least prices are those that favour the agents; the others may be far from them.
		{api.Rooms{V: [][]int{{8, 4}, {6, 6}}, Rent: 9}, api.Lease{Room: []int{0, 1}, Price: []int{9, 9}, Den: 2}, []int{7, 3}, [][]int{{0, -4}, {0, 0}}, qs(2, 9, 5), qs(2, 13, 9)},
		// A link leads over another room, and prices are thirds.
		{api.Rooms{V: [][]int{{6, 2, 1}, {5, 4, 0}, {3, 3, 0}}, Rent: 10}, api.Lease{Room: []int{0, 1, 2}, Price: []int{5, 4, 1}, Den: 1}, []int{1, 0, -1}, [][]int{{0, -2, -5}, {1, 0, -4}, {4, 3, 0}}, qs(3, 15, 11, 1), qs(3, 17, 13, 3)},
		// Without a rent some are paid for their rooms.
		{api.Rooms{V: [][]int{{9, 8, 0}, {9, 2, 1}, {5, 4, 3}}}, api.Lease{Room: []int{1, 0, 2}, Price: []int{1, 0, -1}, Den: 1}, []int{8, 8, 4}, [][]int{{0, -7, -8}, {1, 0, -7}, {2, 1, 0}}, qs(1, 1, -2, -5), qs(1, 5, 2, -1)},
		{api.Rooms{V: [][]int{{3, 0}, {3, 0}}}, api.Lease{Room: []int{0, 1}, Price: []int{3, -3}, Den: 2}, []int{3, 3}, [][]int{{0, -3}, {3, 0}}, qs(2, 3, -3), qs(2, 3, -3)},
		// two best assignments, at the same prices
		{api.Rooms{V: [][]int{{2, 1}, {1, 0}}, Rent: 1}, api.Lease{Room: []int{0, 1}, Price: []int{1, 0}, Den: 1}, []int{1, 0}, [][]int{{0, -1}, {1, 0}}, qs(1, 1, 0), qs(1, 1, 0)},
		// the greatest values, and the greatest rent
		{api.Rooms{V: [][]int{{most, 0}, {most, 0}}}, api.Lease{Room: []int{0, 1}, Price: []int{most / 2, -most / 2}, Den: 1}, []int{most / 2, most / 2}, [][]int{{0, -most}, {most, 0}}, qs(2, most, -most), qs(2, most, -most)},
		{api.Rooms{V: [][]int{{0, most}, {0, most}}, Rent: api.MaxRent}, api.Lease{Room: []int{0, 1}, Price: []int{4500000, 5500000}, Den: 1}, []int{-4500000, -4500000}, [][]int{{0, most}, {-most, 0}}, qs(1, 4500000, 5500000), qs(1, 4500000, 5500000)},
		{api.Rooms{V: [][]int{{0, most}, {most, 0}}, Rent: api.MaxRent}, api.Lease{Room: []int{1, 0}, Price: []int{5000000, 5000000}, Den: 1}, []int{-4000000, -4000000}, [][]int{{0, -most}, {-most, 0}}, qs(1, 4500000, 4500000), qs(1, 5500000, 5500000)},
		allBehind(),
	}
	for n := range api.MaxAgents {
		n++
		for _, rent := range []int{0, 1, 2, 3, 4, 5, 6, 60, api.MaxRent} {
			all = append(all, evenly(n, rent))
		}
	}
	return all
}

// evenly returns a flat of n agents to whom all rooms are the same, so that all of them cost the same.
func evenly(n, rent int) solved {
	each := q(rent, n)
	den := int(each.Den)
	prices := slices.Repeat([]api.Ratio{each}, n)
	return solved{alike(n, 7, rent), api.Lease{Room: counted(n), Price: list(n, int(each.Num)), Den: den}, list(n, 7*den-int(each.Num)), square(n, func(int, int) int { return 0 }), prices, prices}
}

// allBehind returns the flat of six agents each of whom wants the room in front of its own one more: a link to a room farther in front leads over all between them, and one to a room behind leads to the first room, from there to the last one, and forwards again.
func allBehind() solved {
	c := solved{r: api.Rooms{V: behind(6), Rent: 52}, even: api.Lease{Room: counted(6), Den: 6}}
	c.links = square(6, func(from, to int) int {
		if to > from {
			return 3*(from-to) - 5
		}
		return 3 * (from - to)
	})
	for room := range 6 {
		c.even.Price = append(c.even.Price, 97-18*room)
		c.gains = append(c.gains, 23+18*room)
		c.least = append(c.least, q(97-23*room, 6))
		c.most = append(c.most, q(122-23*room, 6))
	}
	return c
}

// P14.1: flats with the least and the greatest rent, and with all numbers of agents, are valid.
func TestCheck(t *testing.T) {
	for _, r := range samples(300) {
		for _, rent := range []int{0, 1, r.Rent, api.MaxRent} {
			if e := room.Check(api.Rooms{V: r.V, Rent: rent}); e != api.OK {
				t.Errorf("Check(%v) with the rent %d = %v", r, rent, e)
			}
		}
	}
}

// checkBadFlat reports a function that does not have the error of a flat, or has anything beside it.
func checkBadFlat(t *testing.T, r api.Rooms, want api.Errno) {
	t.Helper()
	if e := room.Check(r); e != want {
		t.Errorf("Check(%v) = %v; want %v", r, e, want)
	}
	if l, e := room.Even(r); !sameLease(l, api.Lease{}) || e != want {
		t.Errorf("Even(%v) = %v, %v; want %v", r, l, e, want)
	}
	if l, e := room.Links(r); len(l) != 0 || e != want {
		t.Errorf("Links(%v) = %v, %v; want %v", r, l, e, want)
	}
	for _, at := range []int{0, len(r.V) - 1, -1, len(r.V), math.MinInt, math.MaxInt} {
		checkNoRange(t, r, at, want)
	}
	n := len(r.V)
	for _, l := range []api.Lease{{}, {Room: counted(n), Price: list(n, r.Rent), Den: n}, {Room: counted(n), Price: list(n, 0), Den: 1}, {Room: []int{-1}, Price: []int{math.MinInt}, Den: -1}} {
		checkBadLease(t, r, l, want)
	}
}

// checkNoRange reports the range of a room if it does not have an error, or anything beside it.
func checkNoRange(t *testing.T, r api.Rooms, at int, want api.Errno) {
	t.Helper()
	if least, most, e := room.Range(r, at); least != (api.Ratio{}) || most != (api.Ratio{}) || e != want {
		t.Errorf("Range(%v, %d) = %v, %v, %v; want %v", r, at, least, most, e, want)
	}
}

// checkBadLease reports a function of leases that does not have an error, or has anything beside it.
func checkBadLease(t *testing.T, r api.Rooms, l api.Lease, want api.Errno) {
	t.Helper()
	if e := room.Valid(r, l); e != want {
		t.Errorf("Valid(%v, %v) = %v; want %v", r, l, e, want)
	}
	if g, e := room.Gains(r, l); len(g) != 0 || e != want {
		t.Errorf("Gains(%v, %v) = %v, %v; want %v", r, l, g, e, want)
	}
	if x, e := room.Envies(r, l); len(x) != 0 || e != want {
		t.Errorf("Envies(%v, %v) = %v, %v; want %v", r, l, x, e, want)
	}
}

// P14.1 to P14.3: the error of the values comes first, then that of the rent, both ahead of any error of a lease or a room.
func TestBadFlats(t *testing.T) {
	for _, f := range badFlats() {
		checkBadFlat(t, f.r, f.e)
	}
}

// P14.1: a lease may have any assignment, and prices up to the greatest ones, also negative, of each denominator.
func TestValid(t *testing.T) {
	extreme := 0
	check := func(r api.Rooms, l api.Lease) {
		if e := room.Valid(r, l); e != api.OK {
			t.Errorf("Valid(%v, %v) = %v", r, l, e)
		}
	}
	for n := range api.MaxAgents {
		n++
		for _, rent := range []int{0, 1, 999, api.MaxRent} {
			r := alike(n, 3, rent)
			for den := range api.MaxSplit {
				den++
				sum, most := rent*den, api.MaxPrice*den
				for at := range n {
					check(r, api.Lease{Room: counted(n), Price: filled(n, at, sum/n, sum), Den: den})
					for _, price := range []int{most, -most, most - 1, 1 - most} {
						prices := filled(n, at, price, sum)
						if n > 1 && slices.Max(prices) <= most && slices.Min(prices) >= -most {
							check(r, api.Lease{Room: counted(n), Price: prices, Den: den})
							extreme++
						}
					}
				}
			}
			for _, a := range permutations(n) {
				check(r, api.Lease{Room: a, Price: filled(n, 0, rent, rent), Den: 1})
			}
		}
	}
	if extreme < 10000 {
		t.Errorf("only %d leases have an extreme price", extreme)
	}
}

// P14.1: what is no valid lease is ErrBad.
func TestBadLeases(t *testing.T) {
	for n := range api.MaxAgents {
		for _, rent := range []int{0, 1, 30, 1000000, api.MaxRent} {
			r := alike(n+1, 5, rent)
			for _, l := range badLeases(r) {
				checkBadLease(t, r, l, api.ErrBad)
			}
		}
	}
	checkBadLease(t, cases()[0].r, api.Lease{}, api.ErrBad)
}

// judged is a lease of a flat, its gains (times Den), and who envies whom.
type judged struct {
	r     api.Rooms
	l     api.Lease
	gains []int
	pairs [][2]int
}

// leases returns leases of which it is easily seen who gains what, and who envies whom.
func leases() []judged {
	const great = api.MaxPrice * api.MaxSplit
	example := cases()[0].r
	other := api.Rooms{V: [][]int{{6, 2, 1}, {5, 4, 0}, {3, 3, 0}}, Rent: 10}
	apart := api.Rooms{V: [][]int{{api.MaxWorth, 0}, {0, api.MaxWorth}}}
	greedy := api.Rooms{V: square(3, func(agent, room int) int { return min(1, (agent-room)*(agent-room)) }), Rent: 3}
	lease := func(den int, rooms []int, prices ...int) api.Lease {
		return api.Lease{Room: rooms, Price: prices, Den: den}
	}
	return []judged{
		// the chapter's example
		{example, lease(1, []int{0, 1}, 3, 2), []int{2, -1}, [][2]int{{1, 0}}},
		{example, lease(2, []int{1, 0}, 7, 3), []int{3, 1}, nil},
		// What is just as good is not envied, but what is better by the least amount is.
		{example, lease(2, []int{1, 0}, 8, 2), []int{4, 0}, nil},
		{example, lease(60, []int{1, 0}, 240, 60), []int{120, 0}, nil},
		{example, lease(60, []int{1, 0}, 241, 59), []int{121, -1}, [][2]int{{1, 0}}},
		{example, lease(60, []int{1, 0}, 210, 90), []int{90, 30}, nil},
		{example, lease(60, []int{1, 0}, 209, 91), []int{89, 31}, [][2]int{{0, 1}}},
		// Whoever has what it wants may gain less than nothing; who is envied is told, not the room.
		{other, lease(1, []int{0, 1, 2}, 5, 4, 1), []int{1, 0, -1}, nil},
		{other, lease(1, []int{1, 0, 2}, 5, 4, 1), []int{-2, 0, -1}, [][2]int{{0, 1}, {0, 2}}},
		{other, lease(1, []int{2, 1, 0}, 5, 4, 1), []int{0, 0, -2}, [][2]int{{0, 2}, {2, 0}, {2, 1}}},
		{other, lease(3, []int{1, 2, 0}, 10, 10, 10), []int{-4, -10, -1}, [][2]int{{0, 2}, {1, 0}, {1, 2}}},
		// All envy all.
		{greedy, lease(1, []int{0, 1, 2}, 1, 1, 1), []int{-1, -1, -1}, [][2]int{{0, 1}, {0, 2}, {1, 0}, {1, 2}, {2, 0}, {2, 1}}},
		{greedy, lease(1, []int{1, 2, 0}, 1, 1, 1), []int{0, 0, 0}, nil},
		// the greatest prices
		{apart, lease(60, []int{0, 1}, great, -great), []int{60*api.MaxWorth - great, 60*api.MaxWorth + great}, [][2]int{{0, 1}}},
		{apart, lease(60, []int{1, 0}, great, -great), []int{great, -great}, [][2]int{{1, 0}}},
		{apart, lease(1, []int{0, 1}, -api.MaxPrice, api.MaxPrice), []int{api.MaxWorth + api.MaxPrice, api.MaxWorth - api.MaxPrice}, [][2]int{{1, 0}}},
		{apart, lease(1, []int{1, 0}, 0, 0), []int{0, 0}, [][2]int{{0, 1}, {1, 0}}},
		// alone
		{api.Rooms{V: [][]int{{9}}, Rent: 4}, lease(5, []int{0}, 20), []int{25}, nil},
		{api.Rooms{V: [][]int{{0}}, Rent: api.MaxRent}, lease(60, []int{0}, great), []int{-great}, nil},
	}
}

// checkJudged reports a lease that is not judged as it must be.
func checkJudged(t *testing.T, c judged) {
	t.Helper()
	if g, e := room.Gains(c.r, c.l); !slices.Equal(g, c.gains) || e != api.OK {
		t.Errorf("Gains(%v, %v) = %v, %v; want %v", c.r, c.l, g, e, c.gains)
	}
	if x, e := room.Envies(c.r, c.l); !slices.Equal(x, c.pairs) || e != api.OK {
		t.Errorf("Envies(%v, %v) = %v, %v; want %v", c.r, c.l, x, e, c.pairs)
	}
}

// P14.1: gains and envy that are easily seen.
func TestGainsAndEnvies(t *testing.T) {
	for _, c := range leases() {
		checkJudged(t, c)
	}
	for _, c := range cases() {
		checkJudged(t, judged{c.r, c.even, c.gains, nil})
	}
}

// checkSolved reports a flat for which something is not found as it must be.
func checkSolved(t *testing.T, c solved) {
	t.Helper()
	if l, e := room.Even(c.r); !sameLease(l, c.even) || e != api.OK {
		t.Errorf("Even(%v) = %v, %v; want %v", c.r, l, e, c.even)
	}
	if l, e := room.Links(c.r); !sameLists(l, c.links) || e != api.OK {
		t.Errorf("Links(%v) = %v, %v; want %v", c.r, l, e, c.links)
	}
	for at := range c.r.V {
		checkRange(t, c.r, at, c.least[at], c.most[at])
	}
}

// checkRange reports the range of a room if it is not as it must be.
func checkRange(t *testing.T, r api.Rooms, at int, least, most api.Ratio) {
	t.Helper()
	if a, b, e := room.Range(r, at); a != least || b != most || e != api.OK {
		t.Errorf("Range(%v, %d) = %v, %v, %v; want %v, %v", r, at, a, b, e, least, most)
	}
}

// P14.2, P14.3: even leases, links and ranges that are easily seen.
func TestCases(t *testing.T) {
	for _, c := range cases() {
		checkSolved(t, c)
	}
}

// P14.3: what is no room is ErrArg.
func TestRangeOfNone(t *testing.T) {
	for _, r := range samples(100) {
		n := len(r.V)
		for _, at := range []int{-1, -n, n, n + 1, api.MaxAgents, 64, math.MinInt, math.MaxInt} {
			checkNoRange(t, r, at, api.ErrArg)
		}
	}
}
