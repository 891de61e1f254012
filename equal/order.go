package equal

import (
	"iter"
	"slices"
)

// isOrder reports whether a list has each of n agents once.
func isOrder(list []int, n int) bool {
	if len(list) != n {
		return false
	}
	for agent := range n {
		if !slices.Contains(list, agent) {
			return false
		}
	}
	return true
}

// orders yields all orders of n agents, in the order of lists. Each one has memory of its own.
func orders(n int) iter.Seq[[]int] {
	return func(yield func([]int) bool) {
		var order []int
		for agent := range n {
			order = append(order, agent)
		}
	yielding:
		for yield(slices.Clone(order)) {
			// The next list differs as far behind as possible: all behind the first element that differs is decreasing now, so the least greater one is met first, and the rest goes backwards.
			for i := n - 2; i >= 0; i-- {
				for k := n - 1; k > i; k-- {
					if order[k] > order[i] {
						order[i], order[k] = order[k], order[i]
						slices.Reverse(order[i+1:])
						continue yielding
					}
				}
			}
			return
		}
	}
}
