package equal

import (
	"slices"

	"parcener/api"
	"parcener/cake"
	"parcener/ratio"
)

// line tells what an agent gives to all up to a point x of a stretch: density*x + base.
type line struct {
	density, base int64
}

// field is some hungry cakes, cut at all cuts of any of them into stretches, on each of which all densities stay the same: lines[agent][k] is for that behind the cut k.
type field struct {
	cuts   []int
	lines  [][]line
	totals []int64
}

// path tells where an end is for a part q, as long as it and all ends before it stay on their stretches: (slope*q + base) / den.
// No number of a path, or a moment, is greater than 10 * MaxDens^MaxEqual * MaxLen, so that the product of two of them is far from the end of 64 bits.
type path struct {
	slope, base, den int64
}

// moment is the part num / den, den greater than 0.
type moment struct {
	num, den int64
}

// newField returns the field of some hungry cakes of the same length.
func newField(l []api.Cake) field {
	var f field
	for _, c := range l {
		f.cuts = append(f.cuts, c.Cuts...)
	}
	slices.Sort(f.cuts)
	f.cuts = slices.Compact(f.cuts)
	for _, c := range l {
		total, _ := cake.Total(c)
		f.totals = append(f.totals, int64(total))
		f.lines = append(f.lines, linesOf(c, f.cuts))
	}
	return f
}

// linesOf returns the lines of a cake between some cuts, among which are all of its own.
func linesOf(c api.Cake, cuts []int) []line {
	var lines []line
	value := 0
	for k := range len(cuts) - 1 {
		density, _ := cake.Density(c, whole(cuts[k]))
		lines = append(lines, line{density: int64(density), base: int64(value - density*cuts[k])})
		value += density * (cuts[k+1] - cuts[k])
	}
	return lines
}

// part returns the part of an order. As q grows from 0 on, all ends move to the right, each one evenly until it, or one before it, comes to a cut: so they are followed from cut to cut, until the last one is at Len.
func (f field) part(order []int) api.Ratio {
	last := len(order) - 1
	stretches := make([]int, len(order))
	for {
		first, now := f.nextCut(order, stretches)
		// No other end comes to Len first: all of them are before the last one.
		if first == last && stretches[last] == len(f.cuts)-2 {
			q, _ := ratio.Make(now.num, now.den)
			return q
		}
		stretches[first]++
	}
}

// nextCut returns which end comes first to the end of its stretch, and when.
func (f field) nextCut(order, stretches []int) (first int, now moment) {
	// What is before the first end is at 0, whatever q is.
	p, before := path{den: 1}, 0
	for i, agent := range order {
		k := stretches[i]
		p = f.follow(agent, p, before, k)
		if m := p.when(f.cuts[k+1]); i == 0 || m.sooner(now) {
			first, now = i, m
		}
		before = k
	}
	return first, now
}

// follow returns the path of an agent's end on the stretch with the number at, if that of the end before is p, on the stretch with the number before: the agent gives q times its total to what lies between them.
func (f field) follow(agent int, p path, before, at int) path {
	from, to := f.lines[agent][before], f.lines[agent][at]
	return path{
		slope: from.density*p.slope + f.totals[agent]*p.den,
		base:  from.density*p.base + (from.base-to.base)*p.den,
		den:   to.density * p.den,
	}
}

// when returns the moment at which a path comes to a cut.
func (p path) when(cut int) moment { return moment{num: int64(cut)*p.den - p.base, den: p.slope} }

// sooner reports whether m is less than n.
func (m moment) sooner(n moment) bool { return m.num*n.den < n.num*m.den }
