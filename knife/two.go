package knife

import (
	"slices"

	"parcener/api"
	"parcener/cake"
	"parcener/ratio"
)

// reading is the gap of two cakes for a point.
type reading struct {
	at, gap api.Ratio
}

// readings returns, from 0 on, the gaps of two hungry cakes for all points at which one of both knives is at a cut. Between two of them all densities at the knives stay as they are, so that the gap changes evenly.
// Reckoning has no error here, nor in what it calls: all points have small denominators.
func readings(a, b api.Cake) []reading {
	var l []reading
	for _, cut := range slices.Concat(a.Cuts, b.Cuts) {
		at := paused(a, whole(cut))
		gap, _ := Gap(a, b, at)
		l = append(l, reading{at, gap})
	}
	slices.SortFunc(l, func(x, y reading) int { return compare(x.at, y.at) })
	return l
}

// paused returns the point at which the first knife is when one of both is at a cut: the first one at a cut before half of the total, the other one at each cut from there on.
func paused(a api.Cake, cut api.Ratio) api.Ratio {
	before, _ := cake.Value(a, whole(0), cut)
	half, _ := halfOf(a)
	behind, _ := ratio.Sub(before, half)
	if behind.Num < 0 {
		return cut
	}
	at, _ := cake.Mark(a, whole(0), behind)
	return at
}

// balance returns the least point for which the gap is 0. There is one, because the last reading is the opposite of the first.
func balance(l []reading) api.Ratio {
	before := l[0]
	for _, now := range l {
		if now.gap.Num == 0 {
			return now.at
		}
		if (now.gap.Num < 0) != (before.gap.Num < 0) {
			return crossing(before, now)
		}
		before = now
	}
	return before.at
}

// crossing returns the point between two readings of opposite signs for which the gap is 0, if it changes evenly.
func crossing(before, behind reading) api.Ratio {
	way, _ := ratio.Sub(behind.at, before.at)
	change, _ := ratio.Sub(before.gap, behind.gap)
	part, _ := ratio.Div(before.gap, change)
	gone, _ := ratio.Mul(way, part)
	at, _ := ratio.Add(before.at, gone)
	return at
}

// halfOf returns half of the total of a cake, or cake.Check's error.
func halfOf(c api.Cake) (api.Ratio, api.Errno) {
	total, e := cake.Total(c)
	if e != api.OK {
		return api.Ratio{}, e
	}
	return ratio.Make(int64(total), 2)
}

// hungry reports whether none of the densities of a cake is 0.
func hungry(c api.Cake) bool { return !slices.Contains(c.Dens, 0) }

// deskOf returns a desk with two cakes, which are only read.
func deskOf(a, b api.Cake) api.Desk { return api.Desk{Cakes: []api.Cake{a, b}} }
