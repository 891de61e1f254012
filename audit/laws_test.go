package audit_test

import (
	"math/big"
	"slices"
	"testing"

	"parcener/api"
	"parcener/audit"
	"parcener/cake"
)

// exact returns a ratio as a number of any size.
func exact(a api.Ratio) *big.Rat { return big.NewRat(a.Num, a.Den) }

// scaled returns what the value 1 has as height, as the definition tells it: the least number that is a multiple of all denominators of amounts, times the number of points and 1.
func scaled(log []api.Query, points int) int64 {
	for scale := int64(1); ; scale++ {
		divides := func(q api.Query) bool {
			if q.Kind == api.AskMark {
				return scale%q.B.Den == 0
			}
			return scale%q.Answer.Den == 0
		}
		if !slices.ContainsFunc(log, func(q api.Query) bool { return !divides(q) }) {
			return scale * int64(points+1)
		}
	}
}

// areHeights reports whether h are heights for the points of a transcript, as the definition tells it.
func areHeights(h []int64, points []api.Ratio, log []api.Query, unit int64) bool {
	at := func(p api.Ratio) int64 { return h[slices.Index(points, p)] }
	for i := range len(points) - 1 {
		told := slices.ContainsFunc(log, func(q api.Query) bool {
			return q.Kind == api.AskMark && q.B.Num > 0 && q.Answer == points[i+1]
		})
		if h[i+1] < h[i] || told && h[i+1] == h[i] {
			return false
		}
	}
	for _, q := range log {
		switch {
		case q.Kind == api.AskValue && (at(q.B)-at(q.A))*q.Answer.Den != q.Answer.Num*unit:
			return false
		case q.Kind == api.AskMark && (at(q.Answer)-at(q.A))*q.B.Den != q.B.Num*unit:
			return false
		case q.Kind == api.AskMark && q.B.Num == 0 && q.A != q.Answer:
			return false
		}
	}
	return h[0] == 0
}

// allHeights returns all heights of a transcript that are not greater than highest.
func allHeights(points []api.Ratio, log []api.Query, unit, highest int64) [][]int64 {
	var all [][]int64
	var extend func(h []int64)
	extend = func(h []int64) {
		if len(h) == len(points) {
			if areHeights(h, points, log, unit) {
				all = append(all, slices.Clone(h))
			}
			return
		}
		for next := h[len(h)-1]; next <= highest; next++ {
			extend(append(h, next))
		}
	}
	extend([]int64{0})
	return all
}

// P5.2, P5.4: of a small transcript, all heights are looked at. There is a guess exactly if there are some, and it has those that are the least ones in each point.
func TestAgainstAllHeights(t *testing.T) {
	some, none, steps := 0, 0, 0
	for _, c := range small() {
		points, _ := audit.Points(c.n, c.log)
		unit := scaled(c.log, len(points))
		// Amounts of three queries, and a step to each point, may lie above each other.
		var highest int64 = int64(len(points))
		for _, q := range c.log {
			amount := q.Answer
			if q.Kind == api.AskMark {
				amount = q.B
			}
			highest += amount.Num * unit / amount.Den
		}
		if len(points) > 4 && highest > 30 {
			continue
		}
		all := allHeights(points, c.log, unit, highest)
		g, e := audit.Guess(c.n, c.log)
		if len(all) == 0 {
			none++
			if !same(g, api.Guess{}) || e != api.ErrNone {
				t.Fatalf("Guess(%d, %v) = %v, %v; there are no heights", c.n, c.log, g, e)
			}
			continue
		}
		some++
		least := slices.Clone(all[0])
		for _, h := range all {
			for i := range h {
				least[i] = min(least[i], h[i])
			}
		}
		if e != api.OK || !slices.Equal(g.Points, points) || len(g.F) != len(points) {
			t.Fatalf("Guess(%d, %v) = %v, %v", c.n, c.log, g, e)
		}
		for i, f := range g.F {
			if f != lowest(least[i], unit) {
				t.Fatalf("Guess(%d, %v) = %v; want the heights %v of %d", c.n, c.log, g, least, unit)
			}
			if least[i]%int64(len(points)+1) != 0 {
				steps++
			}
		}
	}
	if some < 200 || none < 100 || steps < 10 {
		t.Errorf("too few cases of one kind: %d, %d, %d", some, none, steps)
	}
}

// bound is that the value of one point is at least by rise greater than that of another one, and greater still if more is greater than 0.
type bound struct {
	rise *big.Rat
	more int
}

// plus returns both bounds one after the other.
func (b bound) plus(c bound) *bound {
	return &bound{new(big.Rat).Add(b.rise, c.rise), b.more + c.more}
}

// over reports whether b asks for more than c, which may be none.
func (b bound) over(c *bound) bool {
	if c == nil {
		return true
	}
	order := b.rise.Cmp(c.rise)
	return order > 0 || order == 0 && b.more > c.more
}

// bounds returns the strongest bounds from each point to each one, or false if one of them is that a point is greater than itself. Values here are ratios of any size, and "greater" has no size.
func bounds(points []api.Ratio, log []api.Query) ([][]*bound, bool) {
	l := make([][]*bound, len(points))
	for i := range l {
		l[i] = make([]*bound, len(points))
	}
	put := func(from, to int, b bound) {
		if b.over(l[from][to]) {
			l[from][to] = &b
		}
	}
	for i := range len(points) - 1 {
		put(i, i+1, bound{new(big.Rat), 0})
	}
	for _, q := range log {
		amount, to := q.Answer, q.B
		if q.Kind == api.AskMark {
			amount, to = q.B, q.Answer
		}
		low, high := slices.Index(points, q.A), slices.Index(points, to)
		put(low, high, bound{exact(amount), 0})
		put(high, low, bound{new(big.Rat).Neg(exact(amount)), 0})
		if q.Kind == api.AskMark && amount.Num > 0 && high > 0 {
			put(high-1, high, bound{new(big.Rat), 1})
		}
		if q.Kind == api.AskMark && amount.Num == 0 && low != high {
			return l, false
		}
	}
	for k := range points {
		for i := range points {
			for j := range points {
				if l[i][k] != nil && l[k][j] != nil {
					put(i, j, *l[i][k].plus(*l[k][j]))
				}
			}
		}
	}
	for i := range points {
		if l[i][i] != nil && l[i][i].over(&bound{new(big.Rat), 0}) {
			return l, false
		}
	}
	return l, true
}

// P5.2, P5.3, P5.4: great transcripts agree with the bounds between all pairs of points.
func TestAgainstBounds(t *testing.T) {
	some, none, out, steps := 0, 0, 0, 0
	for _, c := range doubtful() {
		points, _ := audit.Points(c.n, c.log)
		g, e := audit.Guess(c.n, c.log)
		if e == api.ErrRange {
			out++
			continue
		}
		l, can := bounds(points, c.log)
		if !can {
			none++
			if !same(g, api.Guess{}) || e != api.ErrNone {
				t.Fatalf("Guess(%d, %v) = %v, %v; there are no heights", c.n, c.log, g, e)
			}
			continue
		}
		some++
		if e != api.OK || !slices.Equal(g.Points, points) {
			t.Fatalf("Guess(%d, %v) = %v, %v", c.n, c.log, g, e)
		}
		unit := big.NewRat(1, scaled(c.log, len(points)))
		for i := 1; i < len(points); i++ {
			// The height is that of the strongest bound from 0, with one for each time that it is greater.
			more := new(big.Rat).Mul(unit, big.NewRat(int64(l[0][i].more), 1))
			if want := more.Add(more, l[0][i].rise); exact(g.F[i]).Cmp(want) != 0 {
				t.Fatalf("Guess(%d, %v) = %v: %v has not %v", c.n, c.log, g, points[i], want)
			}
			if l[0][i].more > 1 {
				steps++
			}
		}
	}
	if some < 100 || none < 100 || out > 100 || steps < 20 {
		t.Errorf("too few cases of one kind: %d, %d, %d, %d", some, none, out, steps)
	}
}

// P5.4: a transcript is consistent exactly if it has a guess, which fits all of it; and then so is each first part. First tells where the consistent parts end.
func TestFirstParts(t *testing.T) {
	ends := map[bool]int{}
	for _, c := range append(small(), doubtful()...) {
		first, e := audit.First(c.n, c.log)
		_, whole := audit.Guess(c.n, c.log)
		if e == api.ErrRange || whole == api.ErrRange {
			if first != 0 || e != whole {
				t.Fatalf("First(%d, %v) = %d, %v; Guess: %v", c.n, c.log, first, e, whole)
			}
			continue
		}
		if e != api.OK || (whole == api.OK) != (first == len(c.log)) {
			t.Fatalf("First(%d, %v) = %d, %v; Guess: %v", c.n, c.log, first, e, whole)
		}
		for k := range len(c.log) + 1 {
			g, e := audit.Guess(c.n, c.log[:k])
			if (e == api.OK) != (k <= first) {
				t.Fatalf("First(%d, %v) = %d, but Guess of %d queries: %v", c.n, c.log, first, k, e)
			}
			if e != api.OK {
				continue
			}
			if n, e := audit.Fits(c.n, g, c.log[:k]); n != k || e != api.OK {
				t.Fatalf("Fits(%d, %v, %v) = %d, %v", c.n, g, c.log[:k], n, e)
			}
		}
		ends[whole == api.OK]++
	}
	if ends[true] < 200 || ends[false] < 200 {
		t.Errorf("too few cases of one kind: %v", ends)
	}
}

// P5.3, P5.4: no guess fits what is not consistent. All those with values in small steps, for the points and one more, are looked at.
func TestNoGuessFits(t *testing.T) {
	looked, fitting := 0, 0
	for _, c := range small()[:600] {
		points, _ := audit.Points(c.n, c.log)
		first, _ := audit.First(c.n, c.log)
		if len(points) > 4 {
			continue
		}
		for _, h := range allHeights(points, nil, 1, 8) {
			g := api.Guess{Points: points}
			for _, x := range h {
				g.F = append(g.F, lowest(x, 4))
			}
			n, e := audit.Fits(c.n, g, c.log)
			if e != api.OK || n > first {
				t.Fatalf("Fits(%d, %v, %v) = %d, %v, but First is %d", c.n, g, c.log, n, e, first)
			}
			looked++
			if n == len(c.log) {
				fitting++
			}
			if want := slices.IndexFunc(c.log, func(q api.Query) bool { return !fitsOne(g, q) }); want >= 0 && n != want {
				t.Fatalf("Fits(%d, %v, %v) = %d; want %d", c.n, g, c.log, n, want)
			}
		}
	}
	if looked < 10000 || fitting < 1000 {
		t.Errorf("too few cases of one kind: %d, %d", looked, fitting)
	}
}

// fitsOne reports whether a guess fits a query, as the definition tells it.
func fitsOne(g api.Guess, q api.Query) bool {
	value := func(p api.Ratio) *big.Rat { return exact(g.F[slices.Index(g.Points, p)]) }
	amount, to := q.Answer, q.B
	if q.Kind == api.AskMark {
		amount, to = q.B, q.Answer
	}
	if new(big.Rat).Sub(value(to), value(q.A)).Cmp(exact(amount)) != 0 {
		return false
	}
	if q.Kind == api.AskValue {
		return true
	}
	if q.B.Num == 0 {
		return q.A == q.Answer
	}
	before := g.F[slices.Index(g.Points, to)-1]
	return exact(before).Cmp(value(to)) < 0
}

// P5.4: what a cake has answered is consistent, and the values of the cake itself fit it.
func TestHonestAnswers(t *testing.T) {
	marks, values, out := 0, 0, 0
	g := honest()
	for _, c := range g {
		n, e := audit.First(c.n, c.log)
		if e == api.ErrRange {
			out++
			continue
		}
		if n != len(c.log) || e != api.OK {
			t.Fatalf("First(%d, %v) = %d, %v", c.n, c.log, n, e)
		}
		for _, q := range c.log {
			if q.Kind == api.AskMark {
				marks++
			} else {
				values++
			}
		}
	}
	if marks < 500 || values < 500 || out > 100 {
		t.Errorf("too few cases of one kind: %d, %d, %d", marks, values, out)
	}
}

// P5.4: the values of a cake are a guess that fits all that it answers.
func TestCakeFits(t *testing.T) {
	c := api.Cake{Len: 6, Cuts: []int{0, 1, 3, 4, 6}, Dens: []int{2, 0, 3, 1}}
	g := api.Guess{}
	var l []api.Query
	for i := range int64(13) {
		p := lowest(i, 2)
		v, e := cake.Value(c, w(0), p)
		mark, f := cake.Mark(c, w(0), v)
		if e != api.OK || f != api.OK {
			t.Fatal(e, f)
		}
		g.Points, g.F = append(g.Points, p), append(g.F, v)
		l = append(l, told(w(0), p, v), marked(w(0), v, mark))
	}
	if n, e := audit.Fits(6, g, l); n != len(l) || e != api.OK {
		t.Errorf("Fits(6, %v, %v) = %d, %v", g, l, n, e)
	}
	if n, e := audit.First(6, l); n != len(l) || e != api.OK {
		t.Errorf("First(6, %v) = %d, %v", l, n, e)
	}
}
