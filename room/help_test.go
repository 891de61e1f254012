package room_test

import (
	"math"
	"math/big"
	"math/rand"
	"slices"

	"parcener/api"
)

// solved is a flat, and what must be found for it: the even lease with its gains (times Den), the links, and the ranges of all rooms.
type solved struct {
	r           api.Rooms
	even        api.Lease
	gains       []int
	links       [][]int
	least, most []api.Ratio
}

// list returns n times a number.
func list(n, x int) []int { return slices.Repeat([]int{x}, n) }

// counted returns the numbers from 0 to n - 1.
func counted(n int) []int {
	var l []int
	for i := range n {
		l = append(l, i)
	}
	return l
}

// square returns a list of n numbers for each of n, of which a function tells the elements.
func square(n int, element func(i, j int) int) [][]int {
	v := make([][]int, n)
	for i := range v {
		for j := range n {
			v[i] = append(v[i], element(i, j))
		}
	}
	return v
}

// alike returns a flat of n agents who all give the same value to each room.
func alike(n, worth, rent int) api.Rooms {
	return api.Rooms{V: square(n, func(int, int) int { return worth }), Rent: rent}
}

// behind returns the values of n agents who all have one of the rooms, but want the one in front of it more.
func behind(n int) [][]int {
	return square(n, func(agent, room int) int {
		switch room {
		case agent:
			return 20
		case agent - 1:
			return 23
		}
		return 0
	})
}

// copied returns a copy of some lists.
func copied(v [][]int) [][]int {
	var l [][]int
	for _, row := range v {
		l = append(l, slices.Clone(row))
	}
	return l
}

// sameLists reports whether two lists of lists have the same numbers.
func sameLists(a, b [][]int) bool { return slices.EqualFunc(a, b, slices.Equal) }

// sameLease reports whether two leases are the same.
func sameLease(a, b api.Lease) bool {
	return slices.Equal(a.Room, b.Room) && slices.Equal(a.Price, b.Price) && a.Den == b.Den
}

// copyOf returns a copy of a lease.
func copyOf(l api.Lease) api.Lease {
	return api.Lease{Room: slices.Clone(l.Room), Price: slices.Clone(l.Price), Den: l.Den}
}

// q returns the ratio of num / den.
func q(num, den int) api.Ratio {
	x := big.NewRat(int64(num), int64(den))
	return api.Ratio{Num: x.Num().Int64(), Den: x.Denom().Int64()}
}

// qs returns the ratios of some numbers, all over den.
func qs(den int, nums ...int) []api.Ratio {
	var l []api.Ratio
	for _, num := range nums {
		l = append(l, q(num, den))
	}
	return l
}

// rat returns a ratio as a number of any size.
func rat(a api.Ratio) *big.Rat { return big.NewRat(a.Num, a.Den) }

// total returns the sum of some numbers.
func total(l []int) int {
	sum := 0
	for _, x := range l {
		sum += x
	}
	return sum
}

// permutations returns all assignments of n agents, in the order of lists: the last room of n is put everywhere into all assignments of the others, and the result is sorted.
func permutations(n int) [][]int {
	if n == 0 {
		return [][]int{nil}
	}
	var l [][]int
	for _, a := range permutations(n - 1) {
		for at := range n {
			l = append(l, slices.Insert(slices.Clone(a), at, n-1))
		}
	}
	slices.SortFunc(l, slices.Compare)
	return l
}

// worthOf returns the value of an assignment.
func worthOf(v [][]int, a []int) int {
	sum := 0
	for agent, room := range a {
		sum += v[agent][room]
	}
	return sum
}

// bests returns all assignments of the greatest value, in the order of lists.
func bests(v [][]int) [][]int {
	all := permutations(len(v))
	most := 0
	for _, a := range all {
		most = max(most, worthOf(v, a))
	}
	return slices.DeleteFunc(all, func(a []int) bool { return worthOf(v, a) < most })
}

// gainOf returns what an agent gains with a room at the prices of a lease, times Den, as the definition tells it.
func gainOf(r api.Rooms, l api.Lease, agent, room int) int {
	return r.V[agent][room]*l.Den - l.Price[room]
}

// enviesIn returns the pairs of an agent and one that it envies in a lease, as the definition tells it.
func enviesIn(r api.Rooms, l api.Lease) [][2]int {
	var pairs [][2]int
	for agent := range r.V {
		for other := range r.V {
			if gainOf(r, l, agent, l.Room[other]) > gainOf(r, l, agent, l.Room[agent]) {
				pairs = append(pairs, [2]int{agent, other})
			}
		}
	}
	return pairs
}

// farthest returns by how much the price of the room to must be greater at least than that of from, on all ways that do not come to one of the rooms that are passed, if no agent envies the one with the next room on the way.
func farthest(v [][]int, a []int, from, to int, passed []int) int {
	if from == to {
		return 0
	}
	worth := v[slices.Index(a, from)]
	most := math.MinInt
	passed = append(slices.Clone(passed), from)
	for room := range v {
		if !slices.Contains(passed, room) {
			most = max(most, worth[room]-worth[from]+farthest(v, a, room, to, passed))
		}
	}
	return most
}

// farthestOf returns the links of a flat, on all ways from each room to each one, by the last assignment of the greatest value.
func farthestOf(v [][]int) [][]int {
	all := bests(v)
	a := all[len(all)-1]
	return square(len(v), func(from, to int) int { return farthest(v, a, from, to, nil) })
}

// leaseAt returns the lease of a flat in which the differences of prices are as in some prices with the denominator den.
func leaseAt(r api.Rooms, a, prices []int, den int) api.Lease {
	n := len(prices)
	l := api.Lease{Room: slices.Clone(a), Den: n * den}
	for _, price := range prices {
		l.Price = append(l.Price, n*price+r.Rent*den-total(prices))
	}
	return l
}

// lists returns all lists of n numbers from -most to most that begin with 0.
func lists(n, most int) [][]int {
	if n == 1 {
		return [][]int{{0}}
	}
	var l [][]int
	for _, rest := range lists(n-1, most) {
		for x := -most; x <= most; x++ {
			l = append(l, append(slices.Clone(rest), x))
		}
	}
	return l
}

// smallLeases returns all assignments of a flat with values up to most, each one with all differences of prices up to most in steps of half a cent, so that all ends of ranges and all links are among them.
func smallLeases(r api.Rooms, most int) []api.Lease {
	var l []api.Lease
	for _, prices := range lists(len(r.V), 2*most) {
		for _, a := range permutations(len(r.V)) {
			l = append(l, leaseAt(r, a, prices, 2))
		}
	}
	return l
}

// smallFlats returns all flats of one or two agents with values up to most, and some of three, with some rents.
func smallFlats(most int) []api.Rooms {
	var all []api.Rooms
	g := rand.New(rand.NewSource(14))
	put := func(n int, worth func(agent, room int) int) {
		all = append(all, api.Rooms{V: square(n, worth), Rent: g.Intn(3 * most * n)})
	}
	side := most + 1
	for code := range side {
		put(1, func(int, int) int { return code })
	}
	for code := range side * side * side * side {
		put(2, func(agent, room int) int {
			digits := []int{1, side, side * side, side * side * side}
			return code / digits[2*agent+room] % side
		})
	}
	for range 120 {
		put(3, func(int, int) int { return g.Intn(side) })
	}
	return all
}

// randomFlat returns a flat of n agents: with few values or many, with agents that want the same, and with nothing wanted.
func randomFlat(g *rand.Rand, n int) api.Rooms {
	most := []int{1, 2, 4, 10, 1000, api.MaxWorth}[g.Intn(6)]
	v := square(n, func(int, int) int { return g.Intn(most + 1) })
	for agent := range v {
		switch g.Intn(10) {
		case 0:
			copy(v[agent], v[g.Intn(n)])
		case 1:
			copy(v[agent], list(n, 0))
		case 2:
			v[agent][g.Intn(n)] = api.MaxWorth
		}
	}
	rents := []int{0, api.MaxRent, g.Intn(n*most + 1), g.Intn(10), g.Intn(api.MaxRent + 1)}
	return api.Rooms{V: v, Rent: rents[g.Intn(len(rents))]}
}

// samples returns random flats, the same ones each time, and those of the cases.
func samples(many int) []api.Rooms {
	g := rand.New(rand.NewSource(15))
	var all []api.Rooms
	for range many {
		all = append(all, randomFlat(g, g.Intn(api.MaxAgents)+1))
	}
	for _, c := range cases() {
		all = append(all, c.r)
	}
	return all
}

// changed returns a list with one element changed to x.
func changed(l []int, i, x int) []int { return slices.Replace(slices.Clone(l), i, i+1, x) }

// flawed is what is no valid flat, and the error of it.
type flawed struct {
	r api.Rooms
	e api.Errno
}

// strangeRents returns rents that are out of range.
func strangeRents() []int {
	return []int{-1, api.MaxRent + 1, -api.MaxRent, math.MinInt, math.MaxInt}
}

// badValues returns what are no valid values of rooms, and the error of each.
func badValues() []flawed {
	l := []flawed{
		{api.Rooms{}, api.ErrBad},
		{api.Rooms{V: [][]int{}}, api.ErrBad},
		{api.Rooms{V: [][]int{nil}}, api.ErrBad},
		{api.Rooms{V: make([][]int, api.MaxAgents)}, api.ErrBad},
		{api.Rooms{V: [][]int{list(api.MaxAgents+1, 1)}}, api.ErrBad},
		{api.Rooms{V: make([][]int, api.MaxAgents+1)}, api.ErrMany},
		{api.Rooms{V: make([][]int, 3000)}, api.ErrMany},
		{alike(api.MaxAgents+1, 1, 0), api.ErrMany},
		{alike(api.MaxAgents+1, -1, 0), api.ErrMany},
	}
	for n := range api.MaxAgents {
		n++
		for agent := range n {
			for _, row := range [][]int{nil, list(n-1, 1), list(n+1, 1)} {
				r := alike(n, 1, 0)
				r.V[agent] = row
				l = append(l, flawed{r, api.ErrBad})
			}
			for room := range n {
				for _, worth := range []int{-1, api.MaxWorth + 1, math.MinInt, math.MaxInt} {
					r := alike(n, 1, 0)
					r.V[agent][room] = worth
					l = append(l, flawed{r, api.ErrBad})
				}
			}
		}
	}
	return l
}

// badFlats returns what are no valid flats: wrong values with all rents, and right ones with rents that are out of range.
func badFlats() []flawed {
	var l []flawed
	for _, f := range badValues() {
		for _, rent := range append(strangeRents(), 0, 1, api.MaxRent) {
			l = append(l, flawed{api.Rooms{V: f.r.V, Rent: rent}, f.e})
		}
	}
	for n := range api.MaxAgents {
		for _, rent := range strangeRents() {
			l = append(l, flawed{alike(n+1, 1, rent), api.ErrBad})
		}
	}
	return l
}

// filled returns the prices of n rooms with a sum, one of which has a price, while the others have as much as each other. (The sum is wrong if there are no others.)
func filled(n, room, price, sum int) []int {
	l := list(n, price)
	rest := sum - price
	for i := range n - 1 {
		other := (room + 1 + i) % n
		l[other] = rest / (n - 1 - i)
		rest -= l[other]
	}
	return l
}

// badLeases returns leases that are not valid in a flat, each of which has one thing that is wrong.
func badLeases(r api.Rooms) []api.Lease {
	n := len(r.V)
	var all []api.Lease
	for _, den := range []int{1, 2, api.MaxSplit} {
		sum, most := r.Rent*den, api.MaxPrice*den
		right := filled(n, 0, sum/n, sum)
		put := func(prices []int) {
			all = append(all, api.Lease{Room: counted(n), Price: prices, Den: den})
		}
		for _, rooms := range noAssignments(n) {
			all = append(all, api.Lease{Room: rooms, Price: slices.Clone(right), Den: den})
		}
		for _, strange := range []int{0, -1, -den, api.MaxSplit + 1, 2 * api.MaxSplit, 1 << 62, math.MinInt, math.MaxInt} {
			// One lease has the right sum, also if it wraps around, and one the prices that are right for den.
			even := filled(n, 0, r.Rent*strange/n, r.Rent*strange)
			all = append(all, api.Lease{Room: counted(n), Price: even, Den: strange}, api.Lease{Room: counted(n), Price: slices.Clone(right), Den: strange})
		}
		put(nil)
		put(append(slices.Clone(right), 0))
		put(append(slices.Clone(right), slices.Repeat([]int{1, -1}, 500)...))
		if n > 1 {
			put(filled(n-1, 0, sum/(n-1), sum))
		}
		for room := range n {
			for _, more := range []int{1, -1, most, -most, math.MinInt, 1 << 62} {
				put(changed(right, room, right[room]+more))
			}
			for _, strange := range []int{most + 1, -most - 1, math.MinInt, math.MaxInt, 1 << 62} {
				put(filled(n, room, strange, sum))
			}
		}
	}
	return all
}

// noAssignments returns lists that are no assignments of n agents.
func noAssignments(n int) [][]int {
	l := [][]int{nil, {}, list(n, n), list(n, -1), list(n+1, 0), make([]int, 1000)}
	for i := range n {
		for _, strange := range []int{-1, n, i + n, i - n, i + 64, math.MinInt, math.MaxInt} {
			l = append(l, changed(counted(n), i, strange))
		}
		if n > 1 {
			l = append(l, changed(counted(n), i, (i+1)%n))
		}
	}
	return append(l, counted(n)[:n-1], append(counted(n), n), append(counted(n), 0))
}
