package audit_test

import (
	"math"
	"math/rand"
	"slices"

	"parcener/api"
	"parcener/cake"
)

const top = api.MaxRatio

// r writes a ratio short.
func r(num, den int64) api.Ratio { return api.Ratio{Num: num, Den: den} }

// w writes a whole number as a ratio.
func w(n int64) api.Ratio { return r(n, 1) }

// told returns the query of a value, with its answer.
func told(a, b, answer api.Ratio) api.Query {
	return api.Query{Kind: api.AskValue, A: a, B: b, Answer: answer}
}

// marked returns the query of a mark, with its answer.
func marked(a, v, answer api.Ratio) api.Query {
	return api.Query{Kind: api.AskMark, A: a, B: v, Answer: answer}
}

// log writes a transcript short.
func log(l ...api.Query) []api.Query { return l }

// repeated returns a transcript of one query, again and again.
func repeated(q api.Query, many int) []api.Query { return slices.Repeat(log(q), many) }

// same reports whether two guesses have the same points and values.
func same(a, b api.Guess) bool {
	return slices.Equal(a.Points, b.Points) && slices.Equal(a.F, b.F)
}

// flawed is a transcript that is not valid, and Check's error of it.
type flawed struct {
	n   int
	log []api.Query
	e   api.Errno
}

// invalid returns ratios that are not valid.
func invalid() []api.Ratio {
	return []api.Ratio{{}, r(1, 0), r(2, 4), r(0, 2), r(1, -1), r(-1, -1), r(top+1, 1), r(1, top+1), r(math.MinInt64, 1), r(math.MaxInt64, math.MaxInt64)}
}

// badQueries are queries that are not valid for the length 3.
func badQueries() []api.Query {
	l := []api.Query{
		{}, {Kind: 0, A: w(0), B: w(1), Answer: w(1)}, {Kind: 3, A: w(0), B: w(1), Answer: w(1)}, {Kind: 255, A: w(0), B: w(1), Answer: w(1)},
		// beyond the cake, or the wrong way round
		told(w(-1), w(1), w(1)), told(r(-1, top), w(1), w(1)), told(w(0), w(4), w(1)), told(w(4), w(4), w(0)),
		told(w(0), r(3*1000+1, 1000), w(1)), told(w(2), w(1), w(1)), told(r(1, 2), r(1, 3), w(0)), told(w(-2), w(-1), w(0)),
		marked(w(-1), w(1), w(1)), marked(r(-1, top), w(1), w(1)), marked(w(0), w(1), w(4)), marked(w(4), w(0), w(4)),
		marked(w(0), w(1), r(3*1000+1, 1000)), marked(w(2), w(1), w(1)), marked(r(1, 2), w(0), r(1, 3)), marked(w(1), w(0), w(-1)),
		// an amount that is less than 0
		told(w(0), w(1), w(-1)), told(w(0), w(1), r(-1, top)), told(w(1), w(1), w(-1)),
		marked(w(0), w(-1), w(1)), marked(w(0), r(-1, top), w(1)), marked(w(1), w(-1), w(1)),
	}
	for _, a := range invalid() {
		l = append(l, told(a, w(1), w(1)), told(w(0), a, w(1)), told(w(0), w(1), a))
		l = append(l, marked(a, w(1), w(1)), marked(w(0), a, w(1)), marked(w(0), w(1), a))
	}
	return l
}

// fine is a query that is valid for each length.
func fine() api.Query { return told(w(0), w(1), w(1)) }

// flaws returns transcripts that break each part of the definition.
func flaws() []flawed {
	arg, many, bad := api.ErrArg, api.ErrMany, api.ErrBad
	var l []flawed
	for _, n := range []int{0, -1, -1000, api.MaxLen + 1, math.MinInt, math.MaxInt} {
		l = append(l, flawed{n, nil, arg}, flawed{n, log(fine()), arg}, flawed{n, log(api.Query{}), arg}, flawed{n, make([]api.Query, 3000), arg})
	}
	for _, n := range []int{1, 3, api.MaxLen} {
		l = append(l, flawed{n, repeated(fine(), api.MaxAudit+1), many}, flawed{n, make([]api.Query, api.MaxAudit+1), many}, flawed{n, repeated(fine(), 3000), many})
	}
	for _, q := range badQueries() {
		l = append(l, flawed{3, log(q), bad}, flawed{3, log(fine(), q), bad}, flawed{3, log(q, fine()), bad})
		l = append(l, flawed{3, append(repeated(fine(), api.MaxAudit-1), q), bad}, flawed{3, append(repeated(fine(), api.MaxAudit), q), many})
	}
	// What lies in one cake is beyond another.
	l = append(l, flawed{1, log(told(w(0), w(2), w(1))), bad}, flawed{999, log(marked(w(0), w(1), w(1000))), bad})
	return l
}

// unscaled are valid transcripts for the length 3 whose scale, or an amount times it, is too great.
func unscaled() [][]api.Query {
	return [][]api.Query{
		log(told(w(0), w(1), r(1, 1e9+1))), log(marked(w(0), r(1, 1e9+1), w(1))),
		log(told(w(0), w(1), r(1, top))), log(marked(w(0), r(1, top), w(1))),
		log(told(w(0), w(1), r(1, 31623)), told(w(1), w(2), r(1, 31624))),
		log(told(w(0), w(1), r(1, 31623)), marked(w(1), r(1, 31624), w(2))),
		log(told(w(0), w(1), r(1, 1e9)), told(w(0), w(1), r(1, 3))),
		log(told(w(0), w(1), r(1, 999999937)), told(w(0), w(1), r(1, 2))),
		log(told(w(0), w(1), r(1, 999999937)), told(w(0), w(1), r(1, 999999929))),
		log(told(w(0), w(1), w(1e12+1))), log(marked(w(0), w(1e12+1), w(1))),
		log(told(w(0), w(1), w(top))), log(marked(w(0), w(top), w(1))),
		log(told(w(0), w(1), r(1e12+1, 2))), log(told(w(0), w(1), r(top, 999999937))),
		log(told(w(0), w(1), w(1001)), told(w(0), w(2), r(1, 1e9))), log(told(w(0), w(1), r(1, 1e9)), marked(w(1), w(1001), w(2))),
		// If the scale is not looked at in between, it has no 64 bits in the end.
		log(told(w(0), w(1), r(1, 1e9)), told(w(0), w(1), r(1, 1e9-1)), told(w(0), w(1), r(1, 1e9-3)), told(w(0), w(1), r(1, 1e9-7))),
		// These products have more than 64 bits, and what is left of them with 64 is small.
		log(told(w(0), w(1), r(1, 32)), told(w(1), w(2), r(1, 1<<59+1))), log(told(w(0), w(1), r(1, 32)), told(w(1), w(2), w(1<<59))),
		log(marked(w(0), r(1, 32), w(1)), marked(w(1), w(1<<59), w(2))),
	}
}

// randomPoint returns a point of a cake: a whole number, or a fraction with one of some denominators.
func randomPoint(g *rand.Rand, n int, dens ...int64) api.Ratio {
	den := dens[g.Intn(len(dens))]
	return lowest(g.Int63n(int64(n)*den+1), den)
}

// lowest returns num / den for a num that is not negative.
func lowest(num, den int64) api.Ratio {
	a, b := num, den
	for b != 0 {
		a, b = b, a%b
	}
	return r(num/a, den/a)
}

// randomQuery returns a valid query with any answer. All points are among those that are given.
func randomQuery(g *rand.Rand, points []api.Ratio, amounts []api.Ratio) api.Query {
	from, to := points[g.Intn(len(points))], points[g.Intn(len(points))]
	if from.Num*to.Den > to.Num*from.Den {
		from, to = to, from
	}
	amount := amounts[g.Intn(len(amounts))]
	q := told(from, to, amount)
	if g.Intn(2) == 0 {
		q = marked(from, amount, to)
	}
	q.Agent = g.Intn(7) - 3
	return q
}

// transcript is one of some length.
type transcript struct {
	n   int
	log []api.Query
}

// small returns random transcripts with few points and small amounts.
func small() []transcript {
	g := rand.New(rand.NewSource(5))
	amounts := []api.Ratio{w(0), w(1), r(1, 2), w(1), w(1), w(1), w(2)}
	var l []transcript
	for i := range 2000 {
		t := transcript{n: g.Intn(3) + 1}
		amounts := amounts
		// With the same amount from many points the steps between values matter.
		if i%3 == 0 {
			amounts = []api.Ratio{w(1)}
		}
		points := []api.Ratio{w(0), w(int64(t.n)), randomPoint(g, t.n, 1, 2), randomPoint(g, t.n, 3), randomPoint(g, t.n, 2)}
		for range g.Intn(5) {
			t.log = append(t.log, randomQuery(g, points, amounts))
		}
		l = append(l, t)
	}
	return l
}

// randomCake returns a valid cake of a length.
func randomCake(g *rand.Rand, length int) api.Cake {
	c := api.Cake{Len: length}
	for at := 0; at < length && len(c.Dens) < 30; at += g.Intn(4) + 1 {
		c.Cuts = append(c.Cuts, at)
		c.Dens = append(c.Dens, g.Intn(4)*g.Intn(5))
	}
	c.Cuts = append(c.Cuts, length)
	c.Dens[g.Intn(len(c.Dens))] = g.Intn(api.MaxDens) + 1
	return c
}

// answered returns up to so many queries that a cake has answered, with their right answers.
func answered(g *rand.Rand, c api.Cake, many int) []api.Query {
	var l []api.Query
	for range many {
		a, b := randomPoint(g, c.Len, 1, 1, 2, 3), randomPoint(g, c.Len, 1, 1, 2, 5)
		if v, e := cake.Value(c, a, b); e == api.OK {
			l = append(l, told(a, b, v))
		}
		v := lowest(g.Int63n(30), g.Int63n(4)+1)
		if p, e := cake.Mark(c, a, v); e == api.OK {
			l = append(l, marked(a, v, p))
		}
	}
	g.Shuffle(len(l), func(i, k int) { l[i], l[k] = l[k], l[i] })
	return l[:min(len(l), many)]
}

// honest returns transcripts that random cakes have answered, up to the greatest ones.
func honest() []transcript {
	g := rand.New(rand.NewSource(6))
	var l []transcript
	for range 400 {
		n := []int{1, 2, 5, 12, 40}[g.Intn(5)]
		l = append(l, transcript{n, answered(g, randomCake(g, n), g.Intn(api.MaxAudit+1))})
	}
	return l
}

// doubtful returns transcripts that random cakes have answered, but for some changes of answers.
func doubtful() []transcript {
	g := rand.New(rand.NewSource(8))
	l := honest()
	for i, t := range l {
		for range g.Intn(3) {
			if len(t.log) == 0 {
				continue
			}
			k := g.Intn(len(t.log))
			if q := &t.log[k]; q.Kind == api.AskValue {
				q.Answer = lowest(g.Int63n(40), g.Int63n(3)+1)
			} else if p := randomPoint(g, t.n, 1, 2); p.Num*q.A.Den >= q.A.Num*p.Den {
				q.Answer = p
			}
		}
		l[i] = t
	}
	return l
}
