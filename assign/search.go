package assign

import (
	"math/bits"
	"slices"
)

// greatest returns, for each set of items, the greatest value that they have if they go to the last agents, as many as there are items in the set. A set is a number with a bit for each item.
func greatest(v [][]int) []int {
	most := make([]int, 1<<len(v))
	for set := range most {
		agent := len(v) - bits.OnesCount(uint(set))
		for item := range v {
			if rest := without(set, item); rest != set {
				most[set] = max(most[set], v[agent][item]+most[rest])
			}
		}
	}
	return most
}

// greatestWithout returns the greatest value that the items can have for all agents but one.
func greatestWithout(v [][]int, agent int) int {
	// The agent gets what is left over, which must not count.
	others := slices.Clone(v)
	others[agent] = make([]int, len(v))
	most := greatest(others)
	return most[len(most)-1]
}

// firstBest returns the first one of the assignments of the greatest value.
func firstBest(v [][]int) []int {
	most := greatest(v)
	left := len(most) - 1
	var a []int
	for _, bids := range v {
		for item, worth := range bids {
			// The first list takes, agent by agent, the least item that leaves the greatest value possible.
			if rest := without(left, item); rest != left && worth+most[rest] == most[left] {
				a, left = append(a, item), rest
				break
			}
		}
	}
	return a
}

// without returns a set without an item.
func without(set, item int) int { return set &^ (1 << item) }

// leastPrices returns the least prices that prove the best assignment.
func leastPrices(v [][]int, a []int) []int {
	p := make([]int, len(v))
	// Each price rises just as far as some agent would otherwise rather have that item than its own one. No circle of exchanges makes the best assignment better, so no price raises itself, and as many rounds as there are items are enough.
	for range a {
		for i, own := range a {
			for j, worth := range v[i] {
				p[j] = max(p[j], p[own]+worth-v[i][own])
			}
		}
	}
	return p
}
