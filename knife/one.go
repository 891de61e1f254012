package knife

import (
	"parcener/api"
	"parcener/ask"
	"parcener/ratio"
)

// stopped asks some agents, at least one, of a valid desk for their marks from a point, and returns the desk after this, and who says "stop" first, with its mark. One agent alone is not asked, and has all up to the end.
// Asking has no error: those who are left give at least their shares to what is left, and few marks in a row have small denominators.
func stopped(d api.Desk, agents []int, from api.Ratio) (next api.Desk, first int, to api.Ratio) {
	first, to = agents[0], end(d)
	if len(agents) == 1 {
		return d, first, to
	}
	for _, agent := range agents {
		var at api.Ratio
		d, at, _ = ask.Mark(d, agent, from, share(d, agent))
		// Shares of others are left behind each mark, so that all marks lie before the end.
		if less(at, to) {
			first, to = agent, at
		}
	}
	return d, first, to
}

// share returns the share of an agent of a valid desk: its total divided by the number of all agents, also if only some are left.
func share(d api.Desk, agent int) api.Ratio {
	total, _ := ask.Total(d, agent)
	part, _ := ratio.Make(int64(total), int64(len(d.Cakes)))
	return part
}

// everybody returns all agents of a desk.
func everybody(d api.Desk) []int {
	var l []int
	for agent := range d.Cakes {
		l = append(l, agent)
	}
	return l
}

// end returns the point at which the cake of a valid desk ends.
func end(d api.Desk) api.Ratio { return whole(d.Cakes[0].Len) }

// whole returns the ratio of a whole number.
func whole(n int) api.Ratio { return api.Ratio{Num: int64(n), Den: 1} }

// less reports whether a is less than b, which are valid.
func less(a, b api.Ratio) bool { return compare(a, b) < 0 }

// compare returns how two valid ratios compare.
func compare(a, b api.Ratio) int {
	order, _ := ratio.Cmp(a, b)
	return order
}
