package audit

import (
	"slices"

	"parcener/api"
	"parcener/ratio"
)

const (
	maxScale  = 1_000_000_000     // the greatest scale
	maxAmount = 1_000_000_000_000 // the greatest amount, times the scale
)

// claim is what an answer tells, in one form for both kinds of queries: there is amount between from and to. If first, it is reached in no point before to.
type claim struct {
	from, to, amount api.Ratio
	first            bool
}

// claimOf returns the claim of a query of AskValue or AskMark.
func claimOf(q api.Query) claim {
	if q.Kind == api.AskMark {
		return claim{from: q.A, to: q.Answer, amount: q.B, first: true}
	}
	return claim{from: q.A, to: q.B, amount: q.Answer}
}

// claims returns the claims of all queries of a valid transcript.
func claims(log []api.Query) []claim {
	var l []claim
	for _, q := range log {
		l = append(l, claimOf(q))
	}
	return l
}

// pointsOf returns the points of some claims, in increasing order.
func pointsOf(n int, l []claim) []api.Ratio {
	points := []api.Ratio{whole(0), whole(n)}
	for _, c := range l {
		points = append(points, c.from, c.to)
	}
	slices.SortFunc(points, compare)
	return slices.Compact(points)
}

// scaleOf returns the scale of some claims, or ErrRange if it is too great, or an amount times the scale is.
func scaleOf(l []claim) (int64, api.Errno) {
	scale := int64(1)
	for _, c := range l {
		den := c.amount.Den
		// No multiple of it is less, and the product of two numbers that are not too great has 64 bits.
		if den > maxScale {
			return 0, api.ErrRange
		}
		scale *= den / common(scale, den)
		if scale > maxScale {
			return 0, api.ErrRange
		}
	}
	for _, c := range l {
		if c.amount.Num > maxAmount/(scale/c.amount.Den) {
			return 0, api.ErrRange
		}
	}
	return scale, api.OK
}

// common returns the greatest common divisor of two numbers greater than 0.
func common(a, b int64) int64 {
	for b != 0 {
		a, b = b, a%b
	}
	return a
}

// empty reports whether c tells that nothing lies before the first point with it.
func (c claim) empty() bool {
	return c.first && c.amount.Num == 0
}

// fits reports whether a valid guess with both points of c fits it, or returns ErrRange if what it would have in the point to has no ratio.
func (c claim) fits(g api.Guess) (bool, api.Errno) {
	low, high := slices.Index(g.Points, c.from), slices.Index(g.Points, c.to)
	sum, e := ratio.Add(g.F[low], c.amount)
	if e != api.OK {
		return false, e
	}
	if sum != g.F[high] {
		return false, api.OK
	}
	if c.empty() {
		return c.to == c.from, api.OK
	}
	// With an amount greater than 0, and no value that decreases, there is a point before high.
	return !c.first || compare(g.F[high-1], g.F[high]) < 0, api.OK
}
