package room

import "parcener/assign"

// linksOf returns the links between the rooms of a flat with valid values.
func linksOf(v [][]int) [][]int {
	least := asked(v)
	n := len(v)
	links := make([][]int, n)
	for from := range n {
		for to := range n {
			links[from] = append(links[from], least(from, to))
		}
	}
	// A difference also adds up from those on the way over other rooms. No way in a circle adds anything: the best assignment would be better with its rooms passed on.
	for over := range n {
		for from := range n {
			for to := range n {
				links[from][to] = max(links[from][to], links[from][over]+links[over][to])
			}
		}
	}
	return links
}

// asked returns a function that tells the least difference that the price of the room to must have from that of from, so that who has from in the best assignment does not envy who has to.
// All envy-free leases obey it: prices without envy for one assignment of the greatest value are without envy for every other one.
func asked(v [][]int) func(from, to int) int {
	best, _, _ := assign.Best(v)
	tenant := make([]int, len(v))
	for agent, own := range best {
		tenant[own] = agent
	}
	return func(from, to int) int {
		worth := v[tenant[from]]
		return worth[to] - worth[from]
	}
}
