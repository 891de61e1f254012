package proof_test

import (
	"cmp"
	"math/big"
	"math/rand"
	"slices"

	"parcener/api"
)

const top = api.MaxRatio

// everything is the sum of all claims.
const everything = api.ClaimWhole + api.ClaimShare + api.ClaimEnvy + api.ClaimEqual + api.ClaimOne

// five returns all claims.
func five() []uint8 {
	return []uint8{api.ClaimWhole, api.ClaimShare, api.ClaimEnvy, api.ClaimEqual, api.ClaimOne}
}

// r writes a ratio short.
func r(num, den int64) api.Ratio { return api.Ratio{Num: num, Den: den} }

// of writes a span between two whole numbers short.
func of(from, to int64) api.Span { return api.Span{From: r(from, 1), To: r(to, 1)} }

// span writes a span between two ratios short.
func span(from, to api.Ratio) api.Span { return api.Span{From: from, To: to} }

// one writes a piece of some spans short.
func one(l ...api.Span) []api.Span { return l }

// division writes a division into some pieces short.
func division(pieces ...[]api.Span) api.Division { return api.Division{Pieces: pieces} }

// flat returns a cake with one density.
func flat(length, density int) api.Cake {
	return api.Cake{Len: length, Cuts: []int{0, length}, Dens: []int{density}}
}

// example returns the cakes of the chapter's examples.
func example() []api.Cake {
	return []api.Cake{flat(2, 1), {Len: 2, Cuts: []int{0, 1, 2}, Dens: []int{3, 1}}}
}

// comb returns a piece of so many spans of a width, the first one from a on, each one step behind the one before it.
func comb(many int, a, width, step int64) []api.Span {
	var l []api.Span
	for i := range int64(many) {
		l = append(l, of(a+step*i, a+step*i+width))
	}
	return l
}

// task is some cakes and a division of them.
type task struct {
	l []api.Cake
	d api.Division
}

// flawed is a division that is not valid, and Check's error of it.
type flawed struct {
	task
	e api.Errno
}

// flaws returns divisions that break each part of the definition, and several at once.
func flaws() []flawed {
	arg, many, bad := api.ErrArg, api.ErrMany, api.ErrBad
	two, no, long := example(), api.Cake{}, flat(api.MaxLen+1, 1)
	seven := slices.Repeat([]api.Cake{flat(2, 1)}, api.MaxAgents+1)
	right, unsorted, beyond := one(of(0, 1)), one(of(1, 2), of(0, 1)), one(of(1, 3))
	crowd := comb(api.MaxSpans+1, 0, 1, 2)
	return []flawed{
		// the cakes
		{task{nil, api.Division{}}, bad}, {task{[]api.Cake{}, division(right)}, bad},
		{task{[]api.Cake{no, two[0]}, division(right, right)}, bad},
		{task{[]api.Cake{two[0], no}, division(right, right)}, bad},
		{task{[]api.Cake{long, two[0]}, division(right, right)}, many},
		{task{[]api.Cake{no, long}, division(right, right)}, bad},
		{task{[]api.Cake{two[0], flat(3, 1)}, division(right, right)}, bad},
		{task{seven, division(slices.Repeat([][]api.Span{right}, 7)...)}, many},
		// Errors of cakes come ahead of all others.
		{task{[]api.Cake{two[0], no}, division(right)}, bad}, {task{[]api.Cake{long}, division(crowd)}, many},
		{task{[]api.Cake{two[0], flat(3, 1)}, division(crowd, beyond, right)}, bad}, {task{append(slices.Clone(seven), no), api.Division{}}, many},
		// the number of pieces, ahead of what is wrong with them
		{task{two, api.Division{}}, arg}, {task{two, division()}, arg}, {task{two, division(right)}, arg},
		{task{two, division(right, right, nil)}, arg}, {task{two[:1], division(right, right)}, arg}, {task{two[:1], api.Division{}}, arg},
		{task{two, division(crowd)}, arg}, {task{two, division(unsorted, unsorted, unsorted)}, arg}, {task{seven[1:], division(slices.Repeat([][]api.Span{right}, 7)...)}, arg},
		// a piece
		{task{two, division(unsorted, right)}, bad}, {task{two, division(right, unsorted)}, bad}, {task{two, division(right, one(of(0, 1), of(1, 2)))}, bad},
		{task{two, division(one(api.Span{}), right)}, bad}, {task{two, division(one(of(1, 1)), right)}, bad}, {task{two, division(right, one(span(r(0, 1), r(2, 2))))}, bad},
		{task{two, division(crowd, right)}, many}, {task{two, division(right, crowd)}, many},
		{task{two, division(crowd, unsorted)}, many}, {task{two, division(unsorted, crowd)}, bad},
		// a span that is not in the cake, behind what is wrong with any piece
		{task{two, division(beyond, right)}, arg}, {task{two, division(right, beyond)}, arg}, {task{two, division(one(of(-1, 1)), right)}, arg},
		{task{two, division(right, one(of(-2, -1)))}, arg}, {task{two, division(right, one(of(3, 4)))}, arg}, {task{two, division(one(of(0, 1), of(2, 3)), right)}, arg},
		{task{two, division(one(of(-3, -2), of(0, 1)), right)}, arg}, {task{two, division(right, one(span(r(-1, top), r(1, 1))))}, arg},
		{task{two, division(right, one(span(r(0, 1), r(top-1, top/2-1))))}, arg}, {task{two, division(right, one(of(-1, top)))}, arg},
		{task{two, division(beyond, unsorted)}, bad}, {task{two, division(beyond, crowd)}, many}, {task{two, division(one(of(-1, 1)), one(of(1, 1)))}, bad},
	}
}

// noWorth returns valid divisions for which the worth of some piece has no ratio.
func noWorth() []task {
	thin := one(span(r(1, top), r(2, 1)))
	return []task{
		{example(), division(thin, one(of(0, 1)))}, {example(), division(one(of(0, 1)), thin)},
		// It is one of the second agent alone: for the first one this part of the cake is worth nothing.
		{[]api.Cake{{Len: 2, Cuts: []int{0, 1, 2}, Dens: []int{1, 0}}, flat(2, 3)}, division(one(of(0, 1)), one(span(r(1, 1), r(top-1, top/2))))},
		{[]api.Cake{flat(2, 1)}, division(one(span(r(0, 1), r(1, top)), span(r(1, top-1), r(1, 1))))},
	}
}

// noParts returns valid divisions whose worth has ratios, but a part of a total has none.
func noParts() []task {
	tiny := one(span(r(0, 1), r(1, top)))
	return []task{
		{example(), division(tiny, one(of(0, 1)))}, {example(), division(one(of(0, 2)), tiny)}, {example(), division(tiny, tiny)},
		{[]api.Cake{flat(1000, 12)}, division(one(span(r(0, 1), r(5, top-1))))},
		{[]api.Cake{flat(7, 1), flat(7, 2), flat(7, 3)}, division(one(of(0, 3)), nil, one(span(r(0, 1), r(2, top-1))))},
	}
}

// rat returns a as a number of any size.
func rat(a api.Ratio) *big.Rat { return big.NewRat(a.Num, a.Den) }

// ratioOf returns the ratio of x, which has one.
func ratioOf(x *big.Rat) api.Ratio { return r(x.Num().Int64(), x.Denom().Int64()) }

// fits reports whether x has a ratio.
func fits(x *big.Rat) bool {
	limit := big.NewInt(top)
	return x.Num().CmpAbs(limit) <= 0 && x.Denom().CmpAbs(limit) <= 0
}

// valued returns what a piece is worth for a cake: the sum over all densities and spans.
func valued(c api.Cake, l []api.Span) *big.Rat {
	sum := new(big.Rat)
	for i, d := range c.Dens {
		for _, s := range l {
			from, to := big.NewRat(int64(c.Cuts[i]), 1), big.NewRat(int64(c.Cuts[i+1]), 1)
			if rat(s.From).Cmp(from) > 0 {
				from = rat(s.From)
			}
			if rat(s.To).Cmp(to) < 0 {
				to = rat(s.To)
			}
			if from.Cmp(to) < 0 {
				sum.Add(sum, to.Sub(to, from).Mul(to, big.NewRat(int64(d), 1)))
			}
		}
	}
	return sum
}

// totalOf returns what a whole cake is worth.
func totalOf(c api.Cake) *big.Rat { return valued(c, one(of(0, int64(c.Len)))) }

// owners returns the agents that have a point, in their order.
func owners(d api.Division, x *big.Rat) []int {
	var l []int
	for k, p := range d.Pieces {
		if slices.ContainsFunc(p, func(s api.Span) bool { return rat(s.From).Cmp(x) <= 0 && x.Cmp(rat(s.To)) < 0 }) {
			l = append(l, k)
		}
	}
	return l
}

// pair is a counterexample.
type pair struct{ a, b int }

// unwhole returns all counterexamples to ClaimWhole, of which the first one counts: who has a point is the same from each end of a span to the next one.
func unwhole(t task) []pair {
	var both []pair
	gap := false
	ends := []api.Ratio{r(0, 1)}
	for _, s := range slices.Concat(t.d.Pieces...) {
		if s.To != r(int64(t.l[0].Len), 1) {
			ends = append(ends, s.To)
		}
		ends = append(ends, s.From)
	}
	for _, p := range ends {
		l := owners(t.d, rat(p))
		gap = gap || len(l) == 0
		for i, b := range l {
			for _, a := range l[:i] {
				both = append(both, pair{a, b})
			}
		}
	}
	slices.SortFunc(both, func(x, y pair) int { return cmp.Or(cmp.Compare(x.a, y.a), cmp.Compare(x.b, y.b)) })
	if gap {
		both = append(both, pair{-1, -1})
	}
	return both
}

// counterexamples returns all counterexamples to a claim, as the definitions tell them, of which the first one counts.
func counterexamples(t task, claim uint8) []pair {
	if claim == api.ClaimWhole {
		return unwhole(t)
	}
	var l []pair
	n := big.NewRat(int64(len(t.l)), 1)
	own := func(a int) *big.Rat { return valued(t.l[a], t.d.Pieces[a]) }
	for a, c := range t.l {
		share := new(big.Rat).Quo(totalOf(c), n)
		// own(0) of totalOf(0) is own(a) of totalOf(a) exactly if the products crosswise are the same.
		left, right := new(big.Rat).Mul(own(0), totalOf(c)), new(big.Rat).Mul(own(a), totalOf(t.l[0]))
		switch {
		case claim == api.ClaimShare && own(a).Cmp(share) < 0:
			l = append(l, pair{a, a})
		case claim == api.ClaimEqual && left.Cmp(right) != 0:
			l = append(l, pair{a, 0})
		case claim == api.ClaimOne && len(t.d.Pieces[a]) != 1:
			l = append(l, pair{a, a})
		}
		for b, p := range t.d.Pieces {
			if claim == api.ClaimEnvy && own(a).Cmp(valued(c, p)) < 0 {
				l = append(l, pair{a, b})
			}
		}
	}
	return l
}

// hasParts reports whether all parts of the totals have ratios.
func hasParts(t task) bool {
	for a, c := range t.l {
		if !fits(new(big.Rat).Quo(valued(c, t.d.Pieces[a]), totalOf(c))) {
			return false
		}
	}
	return true
}

// randomCake returns a valid cake of a length.
func randomCake(g *rand.Rand, length int) api.Cake {
	c := api.Cake{Len: length}
	for at := 0; at < length; at += g.Intn(4) + 1 {
		c.Cuts = append(c.Cuts, at)
		c.Dens = append(c.Dens, g.Intn(3)*g.Intn(5))
	}
	c.Cuts = append(c.Cuts, length)
	c.Dens[g.Intn(len(c.Dens))] = g.Intn(api.MaxDens) + 1
	return c
}

// randomCakes returns cakes of so many agents, which often are equal.
func randomCakes(g *rand.Rand, agents, length int) []api.Cake {
	l := []api.Cake{randomCake(g, length)}
	alike := g.Intn(3) == 0
	for range agents - 1 {
		switch {
		case alike:
			l = append(l, l[0])
		case g.Intn(3) == 0:
			l = append(l, flat(length, g.Intn(api.MaxDens)+1))
		default:
			l = append(l, randomCake(g, length))
		}
	}
	return l
}

// randomEnds returns points from 0 to a length, both of them too, strictly increasing: whole ones, halves, or of long numbers.
func randomEnds(g *rand.Rand, length int) []api.Ratio {
	numbers := []*big.Rat{new(big.Rat), big.NewRat(int64(length), 1)}
	for range g.Intn(9) {
		x := big.NewRat(g.Int63n(int64(2*length)+1), 2)
		switch g.Intn(12) {
		case 0:
			x = big.NewRat(g.Int63n(top)+1, top)
		case 1:
			den := g.Int63n(1e8) + 1
			x = big.NewRat(g.Int63n(int64(length)*den+1), den)
		}
		numbers = append(numbers, x)
	}
	slices.SortFunc(numbers, (*big.Rat).Cmp)
	var ends []api.Ratio
	for _, x := range numbers {
		ends = append(ends, ratioOf(x))
	}
	return slices.Compact(ends)
}

// extended returns a piece with one more span behind it, which may touch the last one.
func extended(p []api.Span, s api.Span) []api.Span {
	if last := len(p) - 1; last >= 0 && p[last].To == s.From {
		p[last].To = s.To
		return p
	}
	return append(p, s)
}

// randomDivision returns a valid division of so many pieces: each part of the cake is given to anybody, or the agents have parts one behind the other, or some have a part and others not.
func randomDivision(g *rand.Rand, agents, length int) api.Division {
	d := api.Division{Pieces: make([][]api.Span, agents)}
	ends, order, kind := randomEnds(g, length), g.Perm(agents), g.Intn(3)
	for i := range len(ends) - 1 {
		to := g.Perm(agents)[:g.Intn(min(3, agents+1))]
		switch kind {
		case 0:
			to = []int{g.Intn(agents)}
		case 1:
			to = []int{order[min(i, agents-1)]}
		}
		for _, k := range to {
			d.Pieces[k] = extended(d.Pieces[k], span(ends[i], ends[i+1]))
		}
	}
	return d
}

// even returns a division of flat cakes into pieces of the same length, in any order.
func even(g *rand.Rand, agents int) task {
	width := g.Intn(5) + 1
	t := task{d: api.Division{Pieces: make([][]api.Span, agents)}}
	for i, k := range g.Perm(agents) {
		t.l = append(t.l, flat(agents*width, g.Intn(api.MaxDens)+1))
		t.d.Pieces[k] = one(of(int64(i*width), int64(i*width+width)))
	}
	return t
}

// tasks returns random divisions, the same ones each time.
func tasks() []task {
	g := rand.New(rand.NewSource(3))
	var l []task
	for i := range 3000 {
		agents, length := g.Intn(api.MaxAgents)+1, g.Intn(12)+1
		if i%2 == 0 {
			agents = 2
		}
		l = append(l, task{randomCakes(g, agents, length), randomDivision(g, agents, length)})
		if i%10 == 0 {
			l = append(l, even(g, agents))
		}
	}
	return l
}
