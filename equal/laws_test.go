package equal_test

import (
	"math/big"
	"math/rand"
	"slices"
	"testing"

	"parcener/api"
	"parcener/cake"
	"parcener/equal"
	"parcener/proof"
	"parcener/ratio"
)

// ordered is cakes, and an order of their agents.
type ordered struct {
	l     []api.Cake
	order []int
}

// samples returns random cakes and orders, those of the examples, and all orders of the greatest cakes.
func samples() []ordered {
	g := rand.New(rand.NewSource(13))
	var all []ordered
	for _, l := range parties(1500) {
		all = append(all, ordered{l, g.Perm(len(l))})
	}
	for _, c := range cases() {
		all = append(all, ordered{c.l, c.order})
	}
	for _, order := range permutations(api.MaxEqual) {
		all = append(all, ordered{longest(), order}, ordered{steep(), order})
	}
	return all
}

// P12.2: the part has ends, in numbers of any size, and the last one is Len. (There is just one such number.)
func TestPartIsExact(t *testing.T) {
	atCut, between := 0, 0
	for _, c := range samples() {
		q, e := equal.Part(c.l, c.order)
		if ratio.Check(q) != api.OK || e != api.OK {
			t.Fatalf("Part(%v, %v) = %v, %v", c.l, c.order, q, e)
		}
		ends := endsFor(c.l, c.order, rat(q))
		if ends == nil || ends[len(ends)-1].Cmp(number(c.l[0].Len)) != 0 {
			t.Fatalf("Part(%v, %v) = %v, with the ends %v", c.l, c.order, q, ends)
		}
		if ends[0].IsInt() {
			atCut++
		} else {
			between++
		}
	}
	if atCut < 300 || between < 800 {
		t.Errorf("too few cases of one kind: %d first ends at whole numbers, %d between them", atCut, between)
	}
}

// P12.2: the division has the spans between the ends for the part, each agent its own.
func TestDivisionIsExact(t *testing.T) {
	for _, c := range samples() {
		q, _ := equal.Part(c.l, c.order)
		want := divided{l: c.l, order: c.order}
		for _, end := range endsFor(c.l, c.order, rat(q)) {
			want.ends = append(want.ends, ratioOf(end))
		}
		if d, e := equal.Divide(c.l, c.order); !sameDivision(d, want.division()) || e != api.OK {
			t.Fatalf("Divide(%v, %v) = %v, %v; want %v", c.l, c.order, d, e, want.division())
		}
		if ends, e := equal.Ends(c.l, c.order, q); !slices.Equal(ends, want.ends) || e != api.OK {
			t.Fatalf("Ends(%v, %v, %v) = %v, %v; want %v", c.l, c.order, q, ends, e, want.ends)
		}
	}
}

// errorOfEnds returns the error that the ends for a part must have.
func errorOfEnds(l []api.Cake, order []int, q api.Ratio) api.Errno {
	from := r(0, 1)
	for _, agent := range order {
		v, e := ratio.Mul(q, ratioOf(totalOf(l[agent])))
		if e != api.OK {
			return e
		}
		if from, e = cake.Mark(l[agent], from, v); e != api.OK {
			return e
		}
	}
	return api.OK
}

// someParts returns some parts, with and without small denominators, the same ones each time.
func someParts(g *rand.Rand, n int) []api.Ratio {
	k := int64(g.Intn(40) + 1)
	return []api.Ratio{
		r(0, 1), r(1, 1), r(1, int64(n)), r(1, int64(n+1)), r(1, 12), r(1, 100), r(1, top), r(1, top-int64(g.Intn(9))), r(top-1, top), r(top, 1), r(g.Int63n(top)+1, 1),
		ratioOf(big.NewRat(g.Int63n(2*k), k)),
		ratioOf(big.NewRat(g.Int63n(k), k*int64(n))),
		ratioOf(big.NewRat(g.Int63n(1000000000), 1000000007)),
		ratioOf(big.NewRat(g.Int63n(top)+1, top-int64(g.Intn(1000)))),
	}
}

// P12.1: ends are exact, with the first error of a product or a mark.
func TestEndsAreExact(t *testing.T) {
	g := rand.New(rand.NewSource(14))
	seen := map[api.Errno]int{}
	for _, c := range samples() {
		for _, q := range someParts(g, len(c.l)) {
			ends, e := equal.Ends(c.l, c.order, q)
			seen[e]++
			if e != errorOfEnds(c.l, c.order, q) || e != api.OK && len(ends) != 0 {
				t.Fatalf("Ends(%v, %v, %v) = %v, %v; want %v", c.l, c.order, q, ends, e, errorOfEnds(c.l, c.order, q))
			}
			if e != api.OK {
				continue
			}
			same := func(a api.Ratio, b *big.Rat) bool { return rat(a).Cmp(b) == 0 && ratio.Check(a) == api.OK }
			if want := endsFor(c.l, c.order, rat(q)); !slices.EqualFunc(ends, want, same) {
				t.Fatalf("Ends(%v, %v, %v) = %v; want %v", c.l, c.order, q, ends, want)
			}
		}
	}
	if seen[api.OK] < 5000 || seen[api.ErrNone] < 3000 || seen[api.ErrRange] < 3000 {
		t.Errorf("too few cases of one kind: %v", seen)
	}
}

// sampleParties returns random cakes, those of the examples, and the greatest ones.
func sampleParties() [][]api.Cake {
	all := append(parties(400), longest(), steep())
	for _, c := range cases() {
		all = append(all, c.l)
	}
	return all
}

// P12.3: no order has a greater part than the best one, and none before it, in the order of lists, the same.
func TestBestIsBest(t *testing.T) {
	tied, later := 0, 0
	for _, l := range sampleParties() {
		best, most, e := equal.Best(l)
		if e != api.OK {
			t.Fatalf("Best(%v) = %v", l, e)
		}
		equals := 0
		for _, order := range permutations(len(l)) {
			q, _ := equal.Part(l, order)
			compared := rat(q).Cmp(rat(most))
			if compared > 0 || compared == 0 && slices.Compare(order, best) < 0 || compared != 0 && slices.Equal(order, best) {
				t.Fatalf("Best(%v) = %v, %v; the order %v has %v", l, best, most, order, q)
			}
			if compared == 0 {
				equals++
			}
		}
		if equals > 1 {
			tied++
		}
		if !slices.IsSorted(best) {
			later++
		}
	}
	if tied < 50 || later < 150 {
		t.Errorf("too few cases of one kind: %d with several best orders, %d with one that is not the first", tied, later)
	}
}

// P12.4: the certificate of a division says that it is whole, equitable, and in one span each.
func TestCertificate(t *testing.T) {
	const claims = api.ClaimWhole + api.ClaimEqual + api.ClaimOne
	for _, c := range samples() {
		d, _ := equal.Divide(c.l, c.order)
		made, e := proof.Make(c.l, d)
		if made.Claims&claims != claims || e != api.OK {
			t.Fatalf("%v: the certificate of %v is %v, %v", c, d, made, e)
		}
		if ok, e := proof.Accept(c.l, d, made); !ok || e != api.OK {
			t.Fatalf("%v: Accept(%v, %v) = %v, %v", c, d, made, ok, e)
		}
	}
}

// P12.4: each agent has just the part of its total.
func TestEachHasThePart(t *testing.T) {
	for _, c := range samples() {
		q, _ := equal.Part(c.l, c.order)
		d, _ := equal.Divide(c.l, c.order)
		for agent, piece := range d.Pieces {
			worth := between(c.l[agent], rat(piece[0].From), rat(piece[0].To))
			if worth.Cmp(times(rat(q), totalOf(c.l[agent]))) != 0 {
				t.Fatalf("Divide(%v, %v) = %v: the agent %d has %v", c.l, c.order, d, agent, worth)
			}
		}
	}
}

// P12.4: no part greater than that of the order has ends.
func TestNoGreaterPart(t *testing.T) {
	for _, c := range samples() {
		q, _ := equal.Part(c.l, c.order)
		for _, more := range []*big.Rat{big.NewRat(1, 1000), big.NewRat(1, 100000), big.NewRat(1, 7), big.NewRat(1, 1), big.NewRat(1000, 1)} {
			greater := ratioOf(more.Add(more, rat(q)))
			checkEnds(t, c.l, c.order, greater, api.ErrNone)
		}
	}
}

// P12.4: each lesser part has ends, and the last one is less than Len.
func TestLesserParts(t *testing.T) {
	for _, c := range samples() {
		q, _ := equal.Part(c.l, c.order)
		for _, part := range []*big.Rat{big.NewRat(999, 1000), big.NewRat(6, 7), big.NewRat(1, 2), big.NewRat(1, 100), new(big.Rat)} {
			lesser := ratioOf(times(rat(q), part))
			ends, e := equal.Ends(c.l, c.order, lesser)
			if len(ends) != len(c.l) || e != api.OK || rat(ends[len(ends)-1]).Cmp(number(c.l[0].Len)) >= 0 {
				t.Fatalf("Ends(%v, %v, %v) = %v, %v, where the part is %v", c.l, c.order, lesser, ends, e, q)
			}
		}
	}
}

// P12.4: the part of the best order is at least 1 / n.
func TestBestIsAShare(t *testing.T) {
	more := 0
	for _, l := range sampleParties() {
		_, q, _ := equal.Best(l)
		compared := rat(q).Cmp(big.NewRat(1, int64(len(l))))
		if compared < 0 {
			t.Fatalf("Best(%v) has the part %v", l, q)
		}
		more += compared
	}
	if more < 200 {
		t.Errorf("only %d best orders have more than the share", more)
	}
}
