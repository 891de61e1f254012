package knife_test

import (
	"math/big"
	"math/rand"
	"slices"
	"testing"

	"parcener/api"
	"parcener/ask"
	"parcener/cake"
	"parcener/knife"
	"parcener/proof"
	"parcener/ratio"
)

// sampleRuns returns random cakes, and those of the examples.
func sampleRuns() [][]api.Cake {
	all := parties()
	for _, c := range runs() {
		all = append(all, c.l)
	}
	for n := range api.MaxAgents {
		all = append(all, alike(n+1), slices.Repeat([]api.Cake{longest()[n%2]}, n+1))
	}
	return append(all, wanting(0, 1, 2, 3, 4, 5), wanting(5, 4, 3, 2, 1, 0))
}

// samplePairs returns random pairs of hungry cakes, and those of the examples.
func samplePairs() [][2]api.Cake {
	all := pairs(1)
	for _, c := range halves() {
		all = append(all, [2]api.Cake{c.a, c.b})
	}
	long := longest()
	return append(all, long, [2]api.Cake{long[1], long[0]})
}

// P11.1: the division, the order and the log are those of the definitions, in numbers of any size.
func TestSpansAreExact(t *testing.T) {
	ties := 0
	for _, l := range sampleRuns() {
		want := moved(l)
		d, order, log, e := knife.Spans(l)
		if !sameDivision(d, want.division()) || !slices.Equal(order, want.order) || !slices.Equal(log, want.log) || e != api.OK {
			t.Fatalf("Spans(%v) = %v, %v, %v, %v; want %v", l, d, order, log, e, want)
		}
		if len(l) > 1 && slices.ContainsFunc(log[1:len(l)], func(q api.Query) bool { return q.Answer == log[0].Answer }) {
			ties++
		}
	}
	if ties < 200 {
		t.Errorf("only %d runs begin with equal marks", ties)
	}
}

// points returns some points of a cake of a length, with and without small denominators, the same ones each time.
func points(g *rand.Rand, length int) []api.Ratio {
	k := g.Intn(30) + 1
	return []api.Ratio{
		r(0, 1),
		r(int64(g.Intn(length+1)), 1),
		ratioOf(big.NewRat(int64(g.Intn(k*length+1)), int64(k))),
		ratioOf(big.NewRat(int64(g.Intn(k*length/2+1)), int64(k))),
		r(1, top-int64(g.Intn(3))),
		ratioOf(big.NewRat(g.Int63n(top/2)+1, top-int64(g.Intn(1000)))),
	}
}

// P11.2: other knives are exact, with the error of the mark.
func TestOtherIsExact(t *testing.T) {
	g := rand.New(rand.NewSource(13))
	seen := map[api.Errno]int{}
	for _, pair := range append(pairs(0), samplePairs()...) {
		a := pair[0]
		for _, from := range points(g, a.Len) {
			_, want := cake.Mark(a, from, ratioOf(halfTotal(a)))
			to, e := knife.Other(a, from)
			seen[e]++
			if e != want || e != api.OK && to != (api.Ratio{}) || e == api.OK && rat(to).Cmp(otherKnife(a, rat(from))) != 0 {
				t.Fatalf("Other(%v, %v) = %v, %v", a, from, to, e)
			}
		}
	}
	if seen[api.OK] < 5000 || seen[api.ErrNone] < 1000 || seen[api.ErrRange] < 1000 {
		t.Errorf("too few cases of one kind: %v", seen)
	}
}

// P11.2: gaps are exact, with the first error of the other knife, of the value, and of the difference.
func TestGapIsExact(t *testing.T) {
	g := rand.New(rand.NewSource(14))
	seen := map[api.Errno]int{}
	for _, pair := range append(pairs(0), samplePairs()...) {
		a, b := pair[0], pair[1]
		for _, from := range points(g, a.Len) {
			want := errorOfGap(a, b, from)
			gap, e := knife.Gap(a, b, from)
			seen[e]++
			if e != want || e != api.OK && gap != (api.Ratio{}) || e == api.OK && rat(gap).Cmp(gapAt(a, b, rat(from))) != 0 {
				t.Fatalf("Gap(%v, %v, %v) = %v, %v; want %v", a, b, from, gap, e, want)
			}
		}
	}
	if seen[api.OK] < 5000 || seen[api.ErrNone] < 1000 || seen[api.ErrRange] < 1000 {
		t.Errorf("too few cases of one kind: %v", seen)
	}
}

// errorOfGap returns the error that the gap of two valid cakes must have for a point.
func errorOfGap(a, b api.Cake, from api.Ratio) api.Errno {
	to, e := cake.Mark(a, from, ratioOf(halfTotal(a)))
	if e != api.OK {
		return e
	}
	held, e := cake.Value(b, from, to)
	if e != api.OK {
		return e
	}
	_, e = ratio.Sub(held, ratioOf(halfTotal(b)))
	return e
}

// P11.3: halves are where two knives come first that move from cut to cut with a gap that is not 0.
func TestHalvesAreExact(t *testing.T) {
	begin, later, uneven := 0, 0, 0
	for _, pair := range samplePairs() {
		want := walked(pair[0], pair[1])
		got, e := knife.Half(pair[0], pair[1])
		if got != want || e != api.OK {
			t.Fatalf("Half(%v) = %v, %v; want %v", pair, got, e, want)
		}
		switch {
		case got.From.Num == 0:
			begin++
		case got.From.Den == 1:
			later++
		default:
			uneven++
		}
	}
	if begin < 150 || later < 50 || uneven < 1500 {
		t.Errorf("too few cases of one kind: %d at the beginning, %d at whole numbers, %d between them", begin, later, uneven)
	}
}

// P11.4: the certificate of the division says that it is whole, with the share of each agent, and in one span each.
func TestCertificate(t *testing.T) {
	const claims = api.ClaimWhole + api.ClaimShare + api.ClaimOne
	for _, l := range sampleRuns() {
		d, _, _, _ := knife.Spans(l)
		made, e := proof.Make(l, d)
		if made.Claims&claims != claims || e != api.OK {
			t.Fatalf("%v: the certificate of %v is %v, %v", l, d, made, e)
		}
		if ok, e := proof.Accept(l, d, made); !ok || e != api.OK {
			t.Fatalf("%v: Accept(%v, %v) = %v, %v", l, d, made, ok, e)
		}
	}
}

// P11.4: there are just n * (n + 1) / 2 - 1 queries, all of them right.
func TestQueries(t *testing.T) {
	for _, l := range sampleRuns() {
		_, _, log, e := knife.Spans(l)
		if n := len(l); len(log) != n*(n+1)/2-1 || e != api.OK {
			t.Fatalf("Spans(%v): %d queries, %v", l, len(log), e)
		}
		if n, e := ask.Replay(l, log); n != len(log) || e != api.OK {
			t.Fatalf("Replay of %v for %v = %d, %v", log, l, n, e)
		}
	}
}

// P11.4: the agents have their pieces in the order, one behind the other, and all but the last one have just their shares.
func TestShares(t *testing.T) {
	more := 0
	for _, l := range sampleRuns() {
		d, order, _, _ := knife.Spans(l)
		from := r(0, 1)
		for i, agent := range order {
			s := d.Pieces[agent][0]
			worth := between(l[agent], rat(s.From), rat(s.To))
			compared := worth.Cmp(fraction(totalOf(l[agent]), 1, len(l)))
			if s.From != from || compared < 0 || compared > 0 && i < len(l)-1 {
				t.Fatalf("Spans(%v) = %v, %v: the agent %d has %v", l, d, order, agent, worth)
			}
			from = s.To
			more += compared
		}
		if len(order) != len(l) || from != r(int64(l[0].Len), 1) {
			t.Fatalf("Spans(%v) = %v, %v", l, d, order)
		}
	}
	if more < 300 {
		t.Errorf("only %d of the last ones have more than their share", more)
	}
}

// P11.4: both agents give just half of their totals to the halves, and to the rest.
func TestBothGiveHalf(t *testing.T) {
	for _, pair := range samplePairs() {
		s, _ := knife.Half(pair[0], pair[1])
		for _, c := range pair {
			inside := between(c, rat(s.From), rat(s.To))
			outside := minus(totalOf(c), inside)
			if inside.Cmp(outside) != 0 {
				t.Fatalf("Half(%v) = %v: %v inside, and %v outside", pair, s, inside, outside)
			}
		}
		if to, e := knife.Other(pair[0], s.From); to != s.To || e != api.OK {
			t.Fatalf("Half(%v) = %v: the other knife is at %v, %v", pair, s, to, e)
		}
		if gap, e := knife.Gap(pair[0], pair[1], s.From); gap != r(0, 1) || e != api.OK {
			t.Fatalf("Half(%v) = %v: the gap is %v, %v", pair, s, gap, e)
		}
	}
}

// P11.4: no point before the halves has the gap 0: it has the same sign at all of them.
func TestNoGapBefore(t *testing.T) {
	const parts = 7
	for _, pair := range samplePairs() {
		s, _ := knife.Half(pair[0], pair[1])
		if s.From.Num == 0 {
			continue
		}
		sign := gapAt(pair[0], pair[1], new(big.Rat)).Sign()
		for part := range parts {
			at := fraction(rat(s.From), part, parts)
			if gap := gapAt(pair[0], pair[1], at); sign == 0 || gap.Sign() != sign {
				t.Fatalf("Half(%v) = %v: the gap for %v is %v", pair, s, at, gap)
			}
		}
	}
}

// P11.4: the gap for the other knife of the point 0 is the opposite of that for 0.
func TestOppositeGaps(t *testing.T) {
	for _, pair := range samplePairs() {
		to, e := knife.Other(pair[0], r(0, 1))
		first, f := knife.Gap(pair[0], pair[1], r(0, 1))
		last, g := knife.Gap(pair[0], pair[1], to)
		if first.Num != -last.Num || first.Den != last.Den || e != api.OK || f != api.OK || g != api.OK {
			t.Fatalf("%v: the gaps are %v for 0, and %v for %v (%v, %v, %v)", pair, first, last, to, e, f, g)
		}
	}
}
