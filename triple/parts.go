package triple

import (
	"slices"

	"parcener/api"
	"parcener/ratio"
)

// three is the number of agents, of pieces, and of crumbs.
const three = 3

// What the agents do in the first part, by their numbers.
const (
	cutter  = 0
	trimmer = 1
	chooser = 2
)

// firstPart does the first part with three agents, and returns its result.
func (q *inquiry) firstPart() api.Trimmed {
	s := api.Trimmed{Pieces: q.thirds(cutter, q.all(), q.total(cutter)), Piece: -1}
	worth := q.values(trimmer, s.Pieces[0], s.Pieces[1])
	worth = append(worth, minus(q.total(trimmer), worth...))
	s = q.trimmed(s, worth)
	s.Of = q.choices(s, worth)
	return s
}

// trimmed returns what becomes of three pieces when the trimmer, to whom they have a worth, makes its best one no better than the next.
func (q *inquiry) trimmed(s api.Trimmed, worth []api.Ratio) api.Trimmed {
	first := best(worth, others()...)
	second := best(worth, others(first)...)
	if compare(worth[first], worth[second]) <= 0 {
		return s
	}
	begin := s.Pieces[first].From
	at := q.mark(trimmer, begin, minus(worth[first], worth[second]))
	s.Piece = first
	s.Off = api.Span{From: begin, To: at}
	s.Pieces[first].From = at
	return s
}

// choices returns the piece of each agent. The trimmer chooses by what the pieces were worth before it trimmed: so the trimmed one is the best of those that are left, if it is one of them.
func (q *inquiry) choices(s api.Trimmed, worth []api.Ratio) [three]int {
	first := best(q.values(chooser, s.Pieces[:]...), others()...)
	second := best(worth, others(first)...)
	last := others(first, second)[0]
	return [three]int{cutter: last, trimmer: second, chooser: first}
}

// secondPart divides what was trimmed off, and returns the crumb of each agent.
func (q *inquiry) secondPart(s api.Trimmed) [three]api.Span {
	taker, divider := trimmer, chooser
	if s.Of[chooser] == s.Piece {
		taker, divider = chooser, trimmer
	}
	crumbs := q.thirds(divider, s.Off, q.values(divider, s.Off)[0])
	first := best(q.values(taker, crumbs[:]...), others()...)
	left := others(first)
	second := left[best(q.values(cutter, crumbs[left[0]], crumbs[left[1]]), 0, 1)]
	last := others(first, second)[0]
	var of [three]api.Span
	of[taker], of[cutter], of[divider] = crumbs[first], crumbs[second], crumbs[last]
	return of
}

// best returns which one of some places of a list has the greatest number, the first one of several such: among has at least one.
func best(l []api.Ratio, among ...int) int {
	return slices.MaxFunc(among, func(a, b int) int { return compare(l[a], l[b]) })
}

// others returns all of three places but those that are taken, in order.
func others(taken ...int) []int {
	var l []int
	for k := range three {
		if !slices.Contains(taken, k) {
			l = append(l, k)
		}
	}
	return l
}

// minus returns what is left of a number without some others. Answers at this layer have small denominators, so that each difference has a ratio.
func minus(from api.Ratio, l ...api.Ratio) api.Ratio {
	for _, x := range l {
		from, _ = ratio.Sub(from, x)
	}
	return from
}

// compare returns how two valid ratios compare.
func compare(a, b api.Ratio) int {
	order, _ := ratio.Cmp(a, b)
	return order
}
