package piece_test

import (
	"math"
	"math/big"
	"math/rand"
	"slices"

	"parcener/api"
)

const top = api.MaxRatio

// r writes a ratio short.
func r(num, den int64) api.Ratio { return api.Ratio{Num: num, Den: den} }

// of writes a span between two whole numbers short.
func of(from, to int64) api.Span { return api.Span{From: r(from, 1), To: r(to, 1)} }

// span writes a span between two ratios short.
func span(from, to api.Ratio) api.Span { return api.Span{From: from, To: to} }

// spaced returns so many spans of the length 1, the first one from a on, each one 2 behind the one before it.
func spaced(many int, a int64) []api.Span {
	var l []api.Span
	for i := range int64(many) {
		l = append(l, of(a+2*i, a+2*i+1))
	}
	return l
}

// rat returns a as a number of any size.
func rat(a api.Ratio) *big.Rat { return big.NewRat(a.Num, a.Den) }

// fits reports whether x has a ratio.
func fits(x *big.Rat) bool {
	limit := big.NewInt(top)
	return x.Num().CmpAbs(limit) <= 0 && x.Denom().CmpAbs(limit) <= 0
}

// ratioOf returns the ratio of x, which has one.
func ratioOf(x *big.Rat) api.Ratio { return r(x.Num().Int64(), x.Denom().Int64()) }

// has reports whether one of the spans, in any order, has the point x.
func has(l []api.Span, x *big.Rat) bool {
	return slices.ContainsFunc(l, func(s api.Span) bool { return rat(s.From).Cmp(x) <= 0 && x.Cmp(rat(s.To)) < 0 })
}

// sortedEnds returns all different ends of spans in increasing order.
func sortedEnds(spans []api.Span) []api.Ratio {
	var numbers []*big.Rat
	for _, s := range spans {
		numbers = append(numbers, rat(s.From), rat(s.To))
	}
	slices.SortFunc(numbers, (*big.Rat).Cmp)
	var ends []api.Ratio
	for _, x := range numbers {
		ends = append(ends, ratioOf(x))
	}
	return slices.Compact(ends)
}

// covered tells of each interval between two of the ends whether some spans, in any order, have its points.
func covered(ends []api.Ratio, spans []api.Span) []bool {
	in := make([]bool, len(ends))
	for _, s := range spans {
		for i := slices.Index(ends, s.From); ends[i] != s.To; i++ {
			in[i] = true
		}
	}
	return in
}

// wanted returns the spans of all points that keep chooses by whether a and b, in any order, have them: the reference, which looks at every interval between two ends on its own.
func wanted(a, b []api.Span, keep func(inA, inB bool) bool) []api.Span {
	ends := sortedEnds(slices.Concat(a, b))
	inA, inB := covered(ends, a), covered(ends, b)
	var found []api.Span
	for i, end := range ends {
		if !keep(inA[i], inB[i]) {
			continue
		}
		if last := len(found) - 1; last >= 0 && found[last].To == end {
			found[last].To = ends[i+1]
		} else {
			found = append(found, span(end, ends[i+1]))
		}
	}
	return found
}

// inFirst chooses all points of the first list of spans.
func inFirst(inA, inB bool) bool { return inA }

// limited returns what a call returns instead of a list of spans that may be too long.
func limited(l []api.Span) ([]api.Span, api.Errno) {
	if len(l) > api.MaxSpans {
		return nil, api.ErrMany
	}
	return l, api.OK
}

// noRatios returns ratios that break each part of the definition.
func noRatios() []api.Ratio {
	return []api.Ratio{
		{}, r(1, 0), r(2, -1), r(-1, -2), r(0, -1), r(2, 4), r(0, 2), r(6, 3), r(top+1, 1), r(-top-1, 1), r(1, top+1),
		r(math.MaxInt64, 1), r(math.MinInt64, 1), r(1, math.MinInt64), r(math.MinInt64, math.MinInt64), r(math.MaxInt64, math.MaxInt64),
	}
}

// noSpans returns spans that break each part of the definition.
func noSpans() []api.Span {
	l := []api.Span{
		{}, of(2, 2), of(3, 2), of(0, 0), of(1, -1), of(-1, -2), of(top, -top), of(top, top), of(-top, -top),
		span(r(1, 2), r(1, 3)), span(r(1, top-1), r(1, top)), span(r(1, top), r(1, top)),
	}
	for _, p := range noRatios() {
		l = append(l, span(p, r(5, 1)), span(r(-5, 1), p), span(p, p), span(r(-top, 1), p), span(p, r(top, 1)))
	}
	return l
}

// flawed is a list of spans that is no piece, and Check's error of it.
type flawed struct {
	l []api.Span
	e api.Errno
}

// flaws returns lists that break each part of the definition.
func flaws() []flawed {
	many, bad := api.ErrMany, api.ErrBad
	l := []flawed{
		{[]api.Span{of(0, 1), of(1, 2)}, bad},
		{[]api.Span{of(0, 2), of(1, 3)}, bad},
		{[]api.Span{of(0, 5), of(1, 2)}, bad},
		{[]api.Span{of(1, 2), of(0, 5)}, bad},
		{[]api.Span{of(2, 3), of(0, 1)}, bad},
		{[]api.Span{of(0, 1), of(0, 1)}, bad},
		{[]api.Span{of(0, 1), of(2, 3), of(3, 4)}, bad},
		{[]api.Span{of(0, 1), of(2, 3), of(5, 6), of(4, 7)}, bad},
		{[]api.Span{span(r(0, 1), r(1, top-1)), span(r(1, top), r(1, 1))}, bad},
		{append(spaced(api.MaxSpans-1, 0), of(116, 118)), bad},
		{spaced(api.MaxSpans+1, 0), many},
		{make([]api.Span, api.MaxSpans+1), many},
		{append(spaced(api.MaxSpans, 0), of(0, 500)), many},
		{append(spaced(api.MaxSpans, 0), of(2, 2)), many},
		{make([]api.Span, 5000), many},
		{make([]api.Span, api.MaxSpans), bad},
	}
	for _, s := range noSpans() {
		l = append(l, flawed{[]api.Span{s}, bad}, flawed{[]api.Span{of(-20, -10), s, of(10, 20)}, bad}, flawed{[]api.Span{of(-20, -10), of(10, 20), s}, bad})
	}
	return l
}

// randomRatio returns a ratio from -most to most, of few different ones, or of long numbers.
func randomRatio(g *rand.Rand, most int64) api.Ratio {
	den := int64(g.Intn(3) + 1)
	switch g.Intn(8) {
	case 0:
		den = (g.Int63()>>g.Intn(63))%(top/most) + 1
	case 1:
		return ratioOf(big.NewRat(g.Int63n(5)-2, top-int64(g.Intn(3))))
	}
	return ratioOf(big.NewRat(g.Int63n(2*most*den+1)-most*den, den))
}

// randomSpans returns valid spans in any order, up to so many, which often have points or ends in common.
func randomSpans(g *rand.Rand, many int) []api.Span {
	var l []api.Span
	most := []int64{4, 12, 100}[g.Intn(3)]
	for range g.Intn(many + 1) {
		from, to := randomRatio(g, most), randomRatio(g, most)
		if g.Intn(2) == 0 {
			to, _ = shifted(from, g.Int63n(2)+1)
		}
		switch rat(from).Cmp(rat(to)) {
		case -1:
			l = append(l, span(from, to))
		case 1:
			l = append(l, span(to, from))
		}
	}
	return l
}

// shifted returns the ratio of a + n, or else a, and whether there is one.
func shifted(a api.Ratio, n int64) (api.Ratio, bool) {
	x := new(big.Rat).Add(rat(a), big.NewRat(n, 1))
	if !fits(x) {
		return a, false
	}
	return ratioOf(x), true
}

// randomPiece returns a valid piece of any number of spans that is allowed.
func randomPiece(g *rand.Rand) []api.Span {
	if g.Intn(2) == 0 {
		return dense(g, api.MaxSpans-g.Intn(2)*g.Intn(api.MaxSpans))
	}
	return wanted(randomSpans(g, 12), nil, inFirst)
}

// dense returns a valid piece of so many short spans, one soon behind the other.
func dense(g *rand.Rand, many int) []api.Span {
	var l []api.Span
	at := g.Int63n(10) - 5
	longest, widest := []int64{1, 2, 6}[g.Intn(3)], []int64{1, 2, 6}[g.Intn(3)]
	for range many {
		from := at + g.Int63n(widest) + 1
		at = from + g.Int63n(longest) + 1
		l = append(l, span(ratioOf(big.NewRat(from, 2)), ratioOf(big.NewRat(at, 2))))
	}
	return l
}

// pair is two valid pieces.
type pair struct{ a, b []api.Span }

// pairs returns random ones, the same ones each time.
func pairs() []pair {
	g := rand.New(rand.NewSource(5))
	var l []pair
	for range 2500 {
		l = append(l, pair{randomPiece(g), randomPiece(g)})
	}
	return l
}

// points returns all ends of pieces, and points around them.
func points(pieces ...[]api.Span) []api.Ratio {
	var l []api.Ratio
	for _, s := range slices.Concat(pieces...) {
		middle := new(big.Rat).Add(rat(s.From), rat(s.To))
		if middle.Quo(middle, big.NewRat(2, 1)); fits(middle) {
			l = append(l, ratioOf(middle))
		}
		for _, p := range []api.Ratio{s.From, s.To} {
			before, _ := shifted(p, -1)
			behind, _ := shifted(p, 1)
			l = append(l, before, p, behind)
		}
	}
	return append(l, r(0, 1), r(-top, 1), r(top, 1), r(1, top), r(-1, top))
}

// sample is a cake of the length 10, with total 20.
func sample() api.Cake {
	return api.Cake{Len: 10, Cuts: []int{0, 4, 6, 10}, Dens: []int{2, 0, 3}}
}

// flat returns a cake with one density.
func flat(length, density int) api.Cake {
	return api.Cake{Len: length, Cuts: []int{0, length}, Dens: []int{density}}
}
