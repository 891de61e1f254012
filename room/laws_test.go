package room_test

import (
	"math/big"
	"math/rand"
	"slices"
	"testing"

	"parcener/api"
	"parcener/assign"
	"parcener/ratio"
	"parcener/room"
)

// P14.1: gains and envy are those of the definitions, in leases of all kinds.
func TestGainsAndEnviesAmongAll(t *testing.T) {
	g := rand.New(rand.NewSource(16))
	many, none := 0, 0
	check := func(r api.Rooms, l api.Lease) {
		c := judged{r: r, l: l, pairs: enviesIn(r, l)}
		for agent, own := range l.Room {
			c.gains = append(c.gains, gainOf(r, l, agent, own))
		}
		checkJudged(t, c)
		if len(c.pairs) == 0 {
			none++
		} else if len(c.pairs) > 3 {
			many++
		}
	}
	for _, r := range smallFlats(2) {
		for _, l := range smallLeases(r, 2) {
			check(r, l)
		}
	}
	for _, r := range samples(1000) {
		for _, l := range nearLeases(g, r) {
			check(r, l)
		}
	}
	if many < 5000 || none < 5000 {
		t.Errorf("too few cases of one kind: %d leases with much envy, %d without", many, none)
	}
}

// P14.2: the even lease has the best assignment, and prices that differ from the least ones by the same amount, with the rent as their sum, and with no smaller Den.
func TestEvenIsEven(t *testing.T) {
	dens := map[int]int{}
	for _, r := range append(samples(2000), smallFlats(3)...) {
		l, e := room.Even(r)
		best, _, _ := assign.Best(r.V)
		least, _ := assign.Prices(r.V)
		n := len(r.V)
		if e != api.OK || !slices.Equal(l.Room, best) || len(l.Price) != n || l.Den < 1 {
			t.Fatalf("Even(%v) = %v, %v; the best assignment is %v", r, l, e, best)
		}
		change := big.NewRat(int64(r.Rent-total(least)), int64(n))
		whole := func(den int) bool { return new(big.Rat).Mul(change, big.NewRat(int64(den), 1)).IsInt() }
		for at, price := range l.Price {
			want := big.NewRat(int64(least[at]), 1)
			if want.Add(want, change).Cmp(big.NewRat(int64(price), int64(l.Den))) != 0 {
				t.Fatalf("Even(%v) = %v; the least prices are %v", r, l, least)
			}
		}
		for den := 1; den < l.Den; den++ {
			if whole(den) {
				t.Fatalf("Even(%v) = %v; Den may be %d", r, l, den)
			}
		}
		dens[l.Den]++
	}
	for den := range api.MaxAgents {
		if dens[den+1] < 40 {
			t.Errorf("too few even leases with the Den %d: %v", den+1, dens)
		}
	}
}

// P14.2: links are those on all ways over other rooms, whatever assignment of the greatest value they are asked of.
func TestLinksOnAllWays(t *testing.T) {
	tied, over := 0, 0
	for _, r := range samples(1500) {
		want := farthestOf(r.V)
		if l, e := room.Links(r); !sameLists(l, want) || e != api.OK {
			t.Fatalf("Links(%v) = %v, %v; want %v", r, l, e, want)
		}
		all := bests(r.V)
		if len(all) > 1 {
			tied++
		}
		direct := square(len(r.V), func(from, to int) int {
			worth := r.V[slices.Index(all[0], from)]
			return worth[to] - worth[from]
		})
		if !sameLists(direct, want) {
			over++
		}
	}
	if tied < 300 || over < 300 {
		t.Errorf("too few cases of one kind: %d with several best assignments, %d with links over other rooms", tied, over)
	}
}

// P14.2, P14.3: links and ranges are the least differences, and the least and the greatest prices, among all envy-free leases of small flats.
func TestLinksAndRangesAmongAll(t *testing.T) {
	const far = 1000000
	for _, r := range smallFlats(3) {
		n := len(r.V)
		// All of these leases have the Den 2 * n.
		den := 2 * n
		links := square(n, func(int, int) int { return far })
		least, most := list(n, far), list(n, -far)
		for _, l := range smallLeases(r, 3) {
			if len(enviesIn(r, l)) > 0 {
				continue
			}
			for from, price := range l.Price {
				least[from], most[from] = min(least[from], price), max(most[from], price)
				for to, other := range l.Price {
					links[from][to] = min(links[from][to], other-price)
				}
			}
		}
		got, e := room.Links(r)
		times := square(len(got), func(from, to int) int { return got[from][to] * den })
		if !sameLists(times, links) || e != api.OK {
			t.Errorf("Links(%v) = %v, %v; want %v / %d", r, got, e, links, den)
		}
		for at := range n {
			checkRange(t, r, at, q(least[at], den), q(most[at], den))
		}
	}
}

// extremes returns the envy-free leases of a flat in which a room costs as little, or as much, as possible: the price of each other one differs from its price by the links.
func extremes(r api.Rooms) (least, most []api.Lease) {
	a, _, _ := assign.Best(r.V)
	links := farthestOf(r.V)
	for at := range links {
		var back []int
		for _, l := range links {
			back = append(back, -l[at])
		}
		least = append(least, leaseAt(r, a, back, 1))
		most = append(most, leaseAt(r, a, links[at], 1))
	}
	return least, most
}

// mixed returns a lease with the mean prices of some leases with the same rooms and the same Den, so many that its own Den is not too great.
func mixed(g *rand.Rand, all []api.Lease) api.Lease {
	many := g.Intn(api.MaxSplit/all[0].Den) + 1
	l := api.Lease{Room: slices.Clone(all[0].Room), Price: list(len(all[0].Room), 0), Den: many * all[0].Den}
	for range many {
		for at, price := range all[g.Intn(len(all))].Price {
			l.Price[at] += price
		}
	}
	return l
}

// nearLeases returns valid leases of a flat, envy-free ones and others: the even lease, extreme ones, means of these, and such in which one price is a little higher and another one as much lower, or in which rooms are exchanged.
func nearLeases(g *rand.Rand, r api.Rooms) []api.Lease {
	even, _ := room.Even(r)
	least, most := extremes(r)
	ends := slices.Concat(least, most)
	all := append([]api.Lease{even, mixed(g, ends), mixed(g, ends), mixed(g, ends)}, ends...)
	n := len(r.V)
	for _, l := range slices.Clone(all) {
		i, k := g.Intn(n), g.Intn(n)
		step := 1 + g.Intn(3)*g.Intn(2*l.Den)
		moved := copyOf(l)
		moved.Price[i] += step
		moved.Price[k] -= step
		other := copyOf(l)
		other.Room[i], other.Room[k] = other.Room[k], other.Room[i]
		all = append(all, moved, other)
	}
	return all
}

// isBestLease reports whether the rooms of a lease have the greatest value, and no difference of two prices is less than some links say.
func isBestLease(r api.Rooms, l api.Lease, links [][]int) bool {
	_, greatest, _ := assign.Best(r.V)
	if worthOf(r.V, l.Room) != greatest {
		return false
	}
	for from := range links {
		for to := range links {
			if l.Price[to]-l.Price[from] < links[from][to]*l.Den {
				return false
			}
		}
	}
	return true
}

// P14.4: the even lease is valid and envy-free.
func TestEvenIsEnvyFree(t *testing.T) {
	for _, r := range append(samples(2000), smallFlats(3)...) {
		l, _ := room.Even(r)
		if x, e := room.Envies(r, l); len(x) != 0 || e != api.OK {
			t.Errorf("%v: Envies of the even lease %v = %v, %v", r, l, x, e)
		}
	}
}

// P14.4: a lease is envy-free exactly if its rooms have the greatest value and all differences of its prices obey the links.
func TestEnvyFreeExactly(t *testing.T) {
	g := rand.New(rand.NewSource(17))
	free, other, later := 0, 0, 0
	check := func(r api.Rooms, links [][]int, l api.Lease) {
		want := isBestLease(r, l, links)
		x, e := room.Envies(r, l)
		if e != api.OK || (len(x) == 0) != want {
			t.Fatalf("Envies(%v, %v) = %v, %v; the links are %v", r, l, x, e, links)
		}
		best, _, _ := assign.Best(r.V)
		switch {
		case !want:
			other++
		case slices.Equal(l.Room, best):
			free++
		default:
			later++
		}
	}
	for _, r := range smallFlats(3) {
		links, _ := room.Links(r)
		for _, l := range smallLeases(r, 3) {
			check(r, links, l)
		}
	}
	for _, r := range samples(1000) {
		links, _ := room.Links(r)
		for _, l := range nearLeases(g, r) {
			check(r, links, l)
		}
	}
	if free < 10000 || other < 10000 || later < 1000 {
		t.Errorf("too few cases of one kind: %d are envy-free, %d are not, and %d are with rooms that are not the first best ones", free, other, later)
	}
}

// compared compares the price of a room in a lease with a ratio.
func compared(l api.Lease, at int, a api.Ratio) int {
	return big.NewRat(int64(l.Price[at]), int64(l.Den)).Cmp(rat(a))
}

// P14.4: no envy-free lease has a price outside the range of its room.
func TestPricesAreInRange(t *testing.T) {
	g := rand.New(rand.NewSource(18))
	free := 0
	for _, r := range samples(800) {
		for _, l := range nearLeases(g, r) {
			if x, e := room.Envies(r, l); len(x) != 0 || e != api.OK {
				continue
			}
			free++
			for at := range l.Price {
				least, most, _ := room.Range(r, at)
				if compared(l, at, least) < 0 || compared(l, at, most) > 0 {
					t.Fatalf("Range(%v, %d) = %v, %v; the lease %v is envy-free", r, at, least, most, l)
				}
			}
		}
	}
	if free < 8000 {
		t.Errorf("only %d leases are envy-free", free)
	}
}

// P14.4: there are envy-free leases with both ends of the range of each room.
func TestEndsOfRanges(t *testing.T) {
	wide := 0
	for _, r := range append(samples(1000), smallFlats(3)...) {
		cheap, dear := extremes(r)
		for at := range r.V {
			least, most, _ := room.Range(r, at)
			if compared(cheap[at], at, least) != 0 || compared(dear[at], at, most) != 0 {
				t.Fatalf("Range(%v, %d) = %v, %v; these leases are envy-free: %v, %v", r, at, least, most, cheap[at], dear[at])
			}
			for _, l := range []api.Lease{cheap[at], dear[at]} {
				if x, e := room.Envies(r, l); len(x) != 0 || e != api.OK {
					t.Fatalf("Envies(%v, %v) = %v, %v", r, l, x, e)
				}
			}
			if least != most {
				wide++
			}
		}
	}
	if wide < 2000 {
		t.Errorf("only %d ranges are not a single price", wide)
	}
}

// P14.2, P14.4: another rent moves the range of each room by the same, and leaves the links as they are.
func TestAnotherRent(t *testing.T) {
	g := rand.New(rand.NewSource(19))
	for _, r := range samples(600) {
		links, _ := room.Links(r)
		for _, rent := range []int{0, api.MaxRent, r.Rent / 2, g.Intn(api.MaxRent + 1)} {
			other := api.Rooms{V: r.V, Rent: rent}
			if l, e := room.Links(other); !sameLists(l, links) || e != api.OK {
				t.Errorf("Links(%v) = %v, %v; with the rent %d they are %v", other, l, e, r.Rent, links)
			}
			move := q(rent-r.Rent, len(r.V))
			for at := range r.V {
				least, most, _ := room.Range(r, at)
				low, _ := ratio.Add(least, move)
				high, _ := ratio.Add(most, move)
				checkRange(t, other, at, low, high)
			}
		}
	}
}

// P14.2: a link is 0 from a room to itself, at most what all links on a way add up to, and there and back never more than 0.
func TestLinksAddUp(t *testing.T) {
	for _, r := range samples(1000) {
		links, _ := room.Links(r)
		for from := range links {
			for to := range links {
				for over := range links {
					if links[from][to] < links[from][over]+links[over][to] || links[from][from] != 0 {
						t.Fatalf("Links(%v) = %v", r, links)
					}
				}
			}
		}
	}
}
