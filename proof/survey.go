package proof

import (
	"slices"

	"parcener/api"
	"parcener/cake"
	"parcener/piece"
	"parcener/ratio"
)

// survey is a valid division with what its claims are judged by.
type survey struct {
	cakes  []api.Cake
	pieces [][]api.Span
	worth  [][]api.Ratio
	parts  []api.Ratio // those of the totals, only if ClaimEqual is judged
}

// newSurvey returns the survey of a division: Worth's error, and ErrRange if parts are asked for and one of them has no ratio.
func newSurvey(l []api.Cake, d api.Division, withParts bool) (survey, api.Errno) {
	worth, e := Worth(l, d)
	if e != api.OK {
		return survey{}, e
	}
	s := survey{cakes: l, pieces: d.Pieces, worth: worth}
	if withParts {
		s.parts, e = s.partsOfTotals()
	}
	return s, e
}

// partsOfTotals returns which part of its total each agent has, or ErrRange.
func (s survey) partsOfTotals() ([]api.Ratio, api.Errno) {
	var parts []api.Ratio
	for a := range len(s.cakes) {
		part, e := ratio.Div(s.worth[a][a], whole(s.total(a)))
		if e != api.OK {
			return nil, e
		}
		parts = append(parts, part)
	}
	return parts, api.OK
}

// total returns what the whole cake is worth for an agent.
func (s survey) total(agent int) int {
	total, _ := cake.Total(s.cakes[agent])
	return total
}

// holding returns the sum of those of some claims that hold.
func (s survey) holding(claims uint8) uint8 {
	var sum uint8
	for claim := api.ClaimWhole; claim <= api.ClaimOne; claim <<= 1 {
		if claims&claim == 0 {
			continue
		}
		if _, _, found := s.counterexample(claim); !found {
			sum |= claim
		}
	}
	return sum
}

// counterexample returns the counterexample to a claim, and whether there is one.
func (s survey) counterexample(claim uint8) (a, b int, found bool) {
	refutes := s.against(claim)
	for a := range len(s.cakes) {
		for b := range len(s.cakes) {
			if refutes(a, b) {
				return a, b, true
			}
		}
	}
	// A point that nobody has is seen in no pair.
	if claim == api.ClaimWhole && s.leavesSome() {
		return -1, -1, true
	}
	return 0, 0, false
}

// against returns what reports whether a pair is a counterexample to a claim, one of the five.
func (s survey) against(claim uint8) func(a, b int) bool {
	switch claim {
	case api.ClaimWhole:
		return func(a, b int) bool { return a < b && haveCommon(s.pieces[a], s.pieces[b]) }
	case api.ClaimShare:
		return func(a, b int) bool { return a == b && s.isPoor(a) }
	case api.ClaimEnvy:
		return func(a, b int) bool { return compare(s.worth[a][a], s.worth[a][b]) < 0 }
	case api.ClaimEqual:
		return func(a, b int) bool { return b == 0 && s.parts[a] != s.parts[0] }
	}
	// What is left is ClaimOne.
	return func(a, b int) bool { return a == b && len(s.pieces[a]) != 1 }
}

// isPoor reports whether an agent has less than its share.
func (s survey) isPoor(agent int) bool {
	share, _ := ratio.Make(int64(s.total(agent)), int64(len(s.cakes)))
	return compare(s.worth[agent][agent], share) < 0
}

// leavesSome reports whether some point of the cake is in no piece, where no two pieces have a point in common.
func (s survey) leavesSome() bool {
	spans := slices.Concat(s.pieces...)
	slices.SortFunc(spans, func(x, y api.Span) int { return compare(x.From, y.From) })
	reached := whole(0)
	for _, x := range spans {
		if x.From != reached {
			return true
		}
		reached = x.To
	}
	return reached != whole(s.cakes[0].Len)
}

// haveCommon reports whether two pieces have a point in common.
func haveCommon(p, q []api.Span) bool {
	common, e := piece.Meet(p, q)
	// If it has more spans than a piece may have, it has some.
	return e == api.ErrMany || len(common) > 0
}
