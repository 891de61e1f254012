package rent_test

import (
	"math"
	"math/big"
	"math/rand"
	"slices"

	"parcener/api"
	"parcener/assign"
	"parcener/room"
)

// solved is a flat, and what must be found for it: the fair lease and the calm one, each with the gains of all agents, and the stakes.
type solved struct {
	r                    api.Rooms
	fair, calm           api.Lease
	fairGains, calmGains []api.Ratio
	least, most          []api.Ratio
}

// list returns n times a number.
func list(n, x int) []int { return slices.Repeat([]int{x}, n) }

// counted returns the numbers from 0 to n - 1.
func counted(n int) []int {
	var l []int
	for i := range n {
		l = append(l, i)
	}
	return l
}

// square returns a list of n numbers for each of n, of which a function tells the elements.
func square(n int, element func(i, j int) int) [][]int {
	v := make([][]int, n)
	for i := range v {
		for j := range n {
			v[i] = append(v[i], element(i, j))
		}
	}
	return v
}

// alike returns a flat of n agents who all give the same value to each room.
func alike(n, worth, rent int) api.Rooms {
	return api.Rooms{V: square(n, func(int, int) int { return worth }), Rent: rent}
}

// behind returns the values of n agents who all have one of the rooms, but want the one in front of it more.
func behind(n int) [][]int {
	return square(n, func(agent, own int) int {
		switch own {
		case agent:
			return 20
		case agent - 1:
			return 23
		}
		return 0
	})
}

// lease returns a lease.
func lease(den int, rooms []int, prices ...int) api.Lease {
	return api.Lease{Room: rooms, Price: prices, Den: den}
}

// copied returns a copy of some lists.
func copied(v [][]int) [][]int {
	var l [][]int
	for _, row := range v {
		l = append(l, slices.Clone(row))
	}
	return l
}

// sameLists reports whether two lists of lists have the same numbers.
func sameLists(a, b [][]int) bool { return slices.EqualFunc(a, b, slices.Equal) }

// sameLease reports whether two leases are the same.
func sameLease(a, b api.Lease) bool {
	return slices.Equal(a.Room, b.Room) && slices.Equal(a.Price, b.Price) && a.Den == b.Den
}

// copyOf returns a copy of a lease.
func copyOf(l api.Lease) api.Lease {
	return api.Lease{Room: slices.Clone(l.Room), Price: slices.Clone(l.Price), Den: l.Den}
}

// q returns the ratio of num / den.
func q(num, den int) api.Ratio {
	x := big.NewRat(int64(num), int64(den))
	return api.Ratio{Num: x.Num().Int64(), Den: x.Denom().Int64()}
}

// qs returns the ratios of some numbers, all over den.
func qs(den int, nums ...int) []api.Ratio {
	var l []api.Ratio
	for _, num := range nums {
		l = append(l, q(num, den))
	}
	return l
}

// compared compares two ratios, as numbers of any size.
func compared(a, b api.Ratio) int { return big.NewRat(a.Num, a.Den).Cmp(big.NewRat(b.Num, b.Den)) }

// total returns the sum of some numbers.
func total(l []int) int {
	sum := 0
	for _, x := range l {
		sum += x
	}
	return sum
}

// permutations returns all assignments of n agents, in the order of lists: the last room of n is put everywhere into all assignments of the others, and the result is sorted.
func permutations(n int) [][]int {
	if n == 0 {
		return [][]int{nil}
	}
	var l [][]int
	for _, a := range permutations(n - 1) {
		for at := range n {
			l = append(l, slices.Insert(slices.Clone(a), at, n-1))
		}
	}
	slices.SortFunc(l, slices.Compare)
	return l
}

// worthOf returns the value of an assignment.
func worthOf(v [][]int, a []int) int {
	sum := 0
	for agent, own := range a {
		sum += v[agent][own]
	}
	return sum
}

// bests returns all assignments of the greatest value, in the order of lists.
func bests(v [][]int) [][]int {
	all := permutations(len(v))
	most := 0
	for _, a := range all {
		most = max(most, worthOf(v, a))
	}
	return slices.DeleteFunc(all, func(a []int) bool { return worthOf(v, a) < most })
}

// gainOf returns what an agent gains with a room at the prices of a lease, times Den, as the definition tells it.
func gainOf(r api.Rooms, l api.Lease, agent, own int) int {
	return r.V[agent][own]*l.Den - l.Price[own]
}

// gainsIn returns the gains of all agents in a lease.
func gainsIn(r api.Rooms, l api.Lease) []api.Ratio {
	var gains []api.Ratio
	for agent, own := range l.Room {
		gains = append(gains, q(gainOf(r, l, agent, own), l.Den))
	}
	return gains
}

// worstIn returns the least and the greatest gain of a lease.
func worstIn(r api.Rooms, l api.Lease) (least, most api.Ratio) {
	gains := gainsIn(r, l)
	return slices.MinFunc(gains, compared), slices.MaxFunc(gains, compared)
}

// isEnvyFree reports whether nobody envies anyone in a lease, as the definition tells it.
func isEnvyFree(r api.Rooms, l api.Lease) bool {
	for agent, own := range l.Room {
		for other := range l.Price {
			if gainOf(r, l, agent, other) > gainOf(r, l, agent, own) {
				return false
			}
		}
	}
	return true
}

// isLeast reports whether the prices of a lease can be told with no smaller Den.
func isLeast(l api.Lease) bool {
	for den := 1; den < l.Den; den++ {
		if !slices.ContainsFunc(l.Price, func(price int) bool { return price*den%l.Den != 0 }) {
			return false
		}
	}
	return l.Den > 0
}

// leaseAt returns the lease of a flat in which the differences of prices are as in some prices with the denominator den.
func leaseAt(r api.Rooms, a, prices []int, den int) api.Lease {
	n := len(prices)
	l := api.Lease{Room: slices.Clone(a), Den: n * den}
	for _, price := range prices {
		l.Price = append(l.Price, n*price+r.Rent*den-total(prices))
	}
	return l
}

// lists returns all lists of n numbers from -most to most that begin with 0.
func lists(n, most int) [][]int {
	if n == 1 {
		return [][]int{{0}}
	}
	var l [][]int
	for _, rest := range lists(n-1, most) {
		for x := -most; x <= most; x++ {
			l = append(l, append(slices.Clone(rest), x))
		}
	}
	return l
}

// freeLeases returns envy-free leases of a flat with values up to most, with all assignments that are possible, and all differences of prices in steps of half a cent: all leases that are best for somebody are among them.
func freeLeases(r api.Rooms, most int) []api.Lease {
	var l []api.Lease
	for _, prices := range lists(len(r.V), 2*most) {
		for _, a := range permutations(len(r.V)) {
			if at := leaseAt(r, a, prices, 2); isEnvyFree(r, at) {
				l = append(l, at)
			}
		}
	}
	return l
}

// smallFlats returns all flats of one or two agents with values up to most, and some of three, with some rents.
func smallFlats(most int) []api.Rooms {
	var all []api.Rooms
	g := rand.New(rand.NewSource(21))
	put := func(n int, worth func(agent, own int) int) {
		all = append(all, api.Rooms{V: square(n, worth), Rent: g.Intn(3 * most * n)})
	}
	side := most + 1
	for code := range side {
		put(1, func(int, int) int { return code })
	}
	for code := range side * side * side * side {
		put(2, func(agent, own int) int {
			digits := []int{1, side, side * side, side * side * side}
			return code / digits[2*agent+own] % side
		})
	}
	for range 150 {
		put(3, func(int, int) int { return g.Intn(side) })
	}
	return all
}

// randomFlat returns a flat of n agents: with few values or many, with agents that want the same, and with nothing wanted.
func randomFlat(g *rand.Rand, n int) api.Rooms {
	most := []int{1, 2, 4, 10, 1000, api.MaxWorth}[g.Intn(6)]
	v := square(n, func(int, int) int { return g.Intn(most + 1) })
	for agent := range v {
		switch g.Intn(10) {
		case 0:
			copy(v[agent], v[g.Intn(n)])
		case 1:
			copy(v[agent], list(n, 0))
		case 2:
			v[agent][g.Intn(n)] = api.MaxWorth
		}
	}
	rents := []int{0, api.MaxRent, g.Intn(n*most + 1), g.Intn(10), g.Intn(api.MaxRent + 1)}
	return api.Rooms{V: v, Rent: rents[g.Intn(len(rents))]}
}

// samples returns random flats, the same ones each time, and those of the cases.
func samples(many int) []api.Rooms {
	g := rand.New(rand.NewSource(22))
	var all []api.Rooms
	for range many {
		all = append(all, randomFlat(g, g.Intn(api.MaxAgents)+1))
	}
	for _, c := range cases() {
		all = append(all, c.r)
	}
	return all
}

// extremes returns the envy-free leases of a flat in which a room costs as little, or as much, as possible: the price of each other one differs from its price by the links.
func extremes(r api.Rooms) (least, most []api.Lease) {
	a, _, _ := assign.Best(r.V)
	links, _ := room.Links(r)
	for at := range links {
		var back []int
		for _, l := range links {
			back = append(back, -l[at])
		}
		least = append(least, leaseAt(r, a, back, 1))
		most = append(most, leaseAt(r, a, links[at], 1))
	}
	return least, most
}

// mixed returns a lease with the mean prices of some leases with the same rooms and the same Den, so many that its own Den is not too great.
func mixed(g *rand.Rand, all []api.Lease) api.Lease {
	many := g.Intn(api.MaxSplit/all[0].Den) + 1
	l := api.Lease{Room: slices.Clone(all[0].Room), Price: list(len(all[0].Room), 0), Den: many * all[0].Den}
	for range many {
		for at, price := range all[g.Intn(len(all))].Price {
			l.Price[at] += price
		}
	}
	return l
}

// nearLeases returns envy-free leases of a flat: the even lease, extreme ones, means of these, such in which one price is a little higher and another one as much lower than there or in some other leases, and the same ones with all other rooms that are possible.
func nearLeases(g *rand.Rand, r api.Rooms, others ...api.Lease) []api.Lease {
	even, _ := room.Even(r)
	least, most := extremes(r)
	ends := slices.Concat(least, most)
	near := slices.Concat([]api.Lease{even, mixed(g, ends), mixed(g, ends), mixed(g, ends)}, ends, others)
	n := len(r.V)
	for _, l := range slices.Clone(near) {
		for range 3 {
			i, k := g.Intn(n), g.Intn(n)
			step := 1 + g.Intn(3)*g.Intn(2*l.Den)
			moved := copyOf(l)
			moved.Price[i] += step
			moved.Price[k] -= step
			near = append(near, moved)
		}
	}
	near = slices.DeleteFunc(near, func(l api.Lease) bool { return !isEnvyFree(r, l) })
	var all []api.Lease
	best := bests(r.V)
	for _, l := range near {
		all = append(all, l, api.Lease{Room: slices.Clone(best[g.Intn(len(best))]), Price: l.Price, Den: l.Den})
	}
	return all
}

// changed returns a list with one element changed to x.
func changed(l []int, i, x int) []int { return slices.Replace(slices.Clone(l), i, i+1, x) }

// flawed is what is no valid flat, and the error of it.
type flawed struct {
	r api.Rooms
	e api.Errno
}

// badFlats returns what are no valid flats: too many agents, or none, one list of values that is wrong, and rents that are out of range.
func badFlats() []flawed {
	all := []flawed{
		{api.Rooms{}, api.ErrBad},
		{api.Rooms{V: [][]int{nil}}, api.ErrBad},
		{api.Rooms{V: make([][]int, api.MaxAgents)}, api.ErrBad},
		{api.Rooms{V: make([][]int, api.MaxAgents+1), Rent: -1}, api.ErrMany},
		{alike(api.MaxAgents+1, 1, 0), api.ErrMany},
		{alike(api.MaxAgents+1, -1, -1), api.ErrMany},
	}
	for n := range api.MaxAgents {
		n++
		for agent := range n {
			for _, row := range [][]int{list(n-1, 1), list(n+1, 1), changed(list(n, 1), agent, -1), changed(list(n, 1), agent, api.MaxWorth+1), changed(list(n, 1), agent, math.MinInt), changed(list(n, 1), agent, math.MaxInt)} {
				r := alike(n, 1, api.MaxRent*(agent%2))
				r.V[agent] = row
				all = append(all, flawed{r, api.ErrBad})
			}
		}
		for _, rent := range []int{-1, api.MaxRent + 1, -api.MaxRent, math.MinInt, math.MaxInt} {
			all = append(all, flawed{alike(n, 1, rent), api.ErrBad})
		}
	}
	return all
}

// filled returns the prices of n rooms with a sum, one of which has a price, while the others have as much as each other. (The sum is wrong if there are no others.)
func filled(n, at, price, sum int) []int {
	l := list(n, price)
	rest := sum - price
	for i := range n - 1 {
		other := (at + 1 + i) % n
		l[other] = rest / (n - 1 - i)
		rest -= l[other]
	}
	return l
}

// badLeases returns leases that are not valid in a flat, each of which has one thing that is wrong.
func badLeases(r api.Rooms) []api.Lease {
	n := len(r.V)
	right := filled(n, 0, r.Rent/n, r.Rent)
	all := []api.Lease{{}, lease(1, counted(n)), lease(1, counted(n), append(slices.Clone(right), 0)...)}
	for _, den := range []int{0, -1, api.MaxSplit + 1, math.MinInt, math.MaxInt} {
		all = append(all, lease(den, counted(n), filled(n, 0, r.Rent*den/n, r.Rent*den)...), lease(den, counted(n), right...))
	}
	for at := range n {
		for _, strange := range []int{-1, n, math.MinInt, math.MaxInt} {
			all = append(all, lease(1, changed(counted(n), at, strange), right...))
		}
		for _, more := range []int{1, -1, math.MinInt} {
			all = append(all, lease(1, counted(n), changed(right, at, right[at]+more)...))
		}
		for _, strange := range []int{api.MaxPrice + 1, -api.MaxPrice - 1, math.MinInt, math.MaxInt} {
			all = append(all, lease(1, counted(n), filled(n, at, strange, r.Rent)...))
		}
	}
	return append(all, lease(1, counted(n)[:n-1], right...), lease(1, counted(n+1), right...), lease(1, append(counted(n), 0), right...))
}
