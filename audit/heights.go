package audit

import (
	"slices"

	"parcener/api"
)

// rule is that the height of the point to is at least by rise greater than that of the point from (or, if rise is negative, at most by so much less).
type rule struct {
	from, to int
	rise     int64
}

// leastHeights returns the least heights of the points of some claims, or false if there are none; unit is what the value 1 has as height.
func leastHeights(points []api.Ratio, l []claim, unit int64) ([]int64, bool) {
	for _, c := range l {
		if c.empty() && c.to != c.from {
			return nil, false
		}
	}
	rules := rulesOf(points, l, unit)
	heights := make([]int64, len(points))
	// What raises a height goes from point to point, and through each one once, unless it goes round without end: then the heights still rise after as many rounds as there are points.
	for range points {
		if !raise(heights, rules) {
			return heights, true
		}
	}
	return nil, false
}

// rulesOf returns the rules for the heights of the points of some claims.
func rulesOf(points []api.Ratio, l []claim, unit int64) []rule {
	var rules []rule
	for i := range len(points) - 1 {
		rules = append(rules, rule{from: i, to: i + 1})
	}
	for _, c := range l {
		low, high := slices.Index(points, c.from), slices.Index(points, c.to)
		rise := c.amount.Num * (unit / c.amount.Den)
		rules = append(rules, rule{from: low, to: high, rise: rise}, rule{from: high, to: low, rise: -rise})
		// The point 0 has none before it: there is no amount greater than 0 up to it anyway.
		if c.first && rise > 0 && high > 0 {
			rules = append(rules, rule{from: high - 1, to: high, rise: 1})
		}
	}
	return rules
}

// raise raises each height that is too low for a rule as far as it must, and reports whether there was one.
func raise(heights []int64, rules []rule) bool {
	raised := false
	for _, r := range rules {
		if least := heights[r.from] + r.rise; heights[r.to] < least {
			heights[r.to] = least
			raised = true
		}
	}
	return raised
}
