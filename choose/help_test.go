package choose_test

import (
	"math"
	"math/big"
	"math/rand"
	"slices"
	"testing"

	"parcener/api"
	"parcener/cake"
	"parcener/choose"
)

// r writes a ratio short.
func r(num, den int64) api.Ratio { return api.Ratio{Num: num, Den: den} }

// flat returns a cake with one density.
func flat(length, density int) api.Cake {
	return api.Cake{Len: length, Cuts: []int{0, length}, Dens: []int{density}}
}

// steps returns a cake with a density for each whole number.
func steps(densities ...int) api.Cake {
	c := api.Cake{Len: len(densities), Dens: densities}
	for at := range c.Len + 1 {
		c.Cuts = append(c.Cuts, at)
	}
	return c
}

// example returns the cakes of the chapter's examples.
func example() []api.Cake { return []api.Cake{flat(2, 1), steps(3, 1)} }

// told returns the query of a value, with its answer.
func told(agent int, a, b, answer api.Ratio) api.Query {
	return api.Query{Agent: agent, Kind: api.AskValue, A: a, B: b, Answer: answer}
}

// marked returns the query of a mark, with its answer.
func marked(agent int, a, v, answer api.Ratio) api.Query {
	return api.Query{Agent: agent, Kind: api.AskMark, A: a, B: v, Answer: answer}
}

// divided returns a division of a cake at a point: the agent first has what lies before it.
func divided(length int, at api.Ratio, first int) api.Division {
	d := api.Division{Pieces: make([][]api.Span, 2)}
	d.Pieces[first] = []api.Span{{From: r(0, 1), To: at}}
	d.Pieces[1-first] = []api.Span{{From: at, To: r(int64(length), 1)}}
	return d
}

// sameDesk reports whether two desks have the same cakes and logs.
func sameDesk(a, b api.Desk) bool {
	return slices.EqualFunc(a.Cakes, b.Cakes, cake.Same) && slices.Equal(a.Log, b.Log)
}

// same reports whether two states are equal.
func same(a, b api.Choice) bool {
	return sameDesk(a.Desk, b.Desk) && a.Cutter == b.Cutter && a.Step == b.Step && a.At == b.At && a.Left == b.Left
}

// sameDivision reports whether two divisions have the same pieces.
func sameDivision(a, b api.Division) bool { return slices.EqualFunc(a.Pieces, b.Pieces, slices.Equal) }

// party is two cakes and a cutter.
type party struct {
	l      []api.Cake
	cutter int
}

// states returns the three states of a party, as the calls give them.
func (p party) states(t *testing.T) []api.Choice {
	t.Helper()
	s, e := choose.Start(p.l, p.cutter)
	if e != api.OK {
		t.Fatalf("Start(%v) = %v", p, e)
	}
	l := []api.Choice{s}
	for range 2 {
		if s, e = choose.Next(s); e != api.OK {
			t.Fatalf("Next behind %v = %v", l, e)
		}
		l = append(l, s)
	}
	return l
}

// flawed is what no party is, and the error of it.
type flawed struct {
	party
	e api.Errno
}

// flaws returns cakes and cutters that break each part of the definition, and several at once.
func flaws() []flawed {
	arg, many, bad := api.ErrArg, api.ErrMany, api.ErrBad
	two, no, long := example(), api.Cake{}, flat(api.MaxLen+1, 1)
	l := []flawed{
		{party{nil, 0}, bad}, {party{[]api.Cake{}, 1}, bad}, {party{nil, 2}, bad},
		{party{[]api.Cake{no, two[0]}, 0}, bad}, {party{[]api.Cake{two[0], no}, 0}, bad}, {party{[]api.Cake{no}, 0}, bad},
		{party{[]api.Cake{long, no}, 0}, many}, {party{[]api.Cake{no, long}, 0}, bad}, {party{[]api.Cake{two[0], two[1], long}, 0}, many},
		{party{[]api.Cake{two[0], flat(3, 1)}, 1}, bad}, {party{[]api.Cake{two[0], two[1], flat(1, 1)}, 1}, bad}, {party{[]api.Cake{two[0], steps(0, 0)}, 0}, bad},
		{party{slices.Repeat(two, 4), 0}, many}, {party{make([]api.Cake, api.MaxAgents+1), 0}, many},
		{party{two[:1], 0}, arg}, {party{two[1:], 1}, arg}, {party{slices.Repeat(two, 3), 0}, arg}, {party{[]api.Cake{two[0], two[1], two[0]}, 1}, arg},
	}
	for _, cutter := range []int{-1, 2, 3, -2, math.MinInt, math.MaxInt} {
		l = append(l, flawed{party{two, cutter}, arg}, flawed{party{two[:1], cutter}, arg}, flawed{party{[]api.Cake{two[0], no}, cutter}, bad})
	}
	return l
}

// rat returns a as a number of any size.
func rat(a api.Ratio) *big.Rat { return big.NewRat(a.Num, a.Den) }

// ratioOf returns the ratio of x, which has one.
func ratioOf(x *big.Rat) api.Ratio { return r(x.Num().Int64(), x.Denom().Int64()) }

// valueTo returns the value from 0 to x.
func valueTo(c api.Cake, x *big.Rat) *big.Rat {
	sum := new(big.Rat)
	for i, d := range c.Dens {
		from, to := big.NewRat(int64(c.Cuts[i]), 1), big.NewRat(int64(c.Cuts[i+1]), 1)
		if x.Cmp(to) < 0 {
			to = x
		}
		if from.Cmp(to) < 0 {
			length := new(big.Rat).Sub(to, from)
			sum.Add(sum, length.Mul(length, big.NewRat(int64(d), 1)))
		}
	}
	return sum
}

// halfOf returns half of the total of a cake.
func halfOf(c api.Cake) *big.Rat {
	return new(big.Rat).Mul(valueTo(c, big.NewRat(int64(c.Len), 1)), big.NewRat(1, 2))
}

// middle returns the least point up to which a cake has half of its total: it lies in the first part at whose end there is so much.
func middle(c api.Cake) *big.Rat {
	half := halfOf(c)
	for i, d := range c.Dens {
		if valueTo(c, big.NewRat(int64(c.Cuts[i+1]), 1)).Cmp(half) >= 0 {
			from := big.NewRat(int64(c.Cuts[i]), 1)
			rest := new(big.Rat).Sub(half, valueTo(c, from))
			return from.Add(from, rest.Quo(rest, big.NewRat(int64(d), 1)))
		}
	}
	return nil
}

// end is how it must end: where it is cut, what lies before it for the chooser, and whether the chooser takes that.
type end struct {
	at, value *big.Rat
	left      bool
}

// ending returns the end of a party, in numbers of any size.
func (p party) ending() end {
	at := middle(p.l[p.cutter])
	value := valueTo(p.l[1-p.cutter], at)
	return end{at, value, value.Cmp(halfOf(p.l[1-p.cutter])) >= 0}
}

// randomCake returns a valid cake of a length.
func randomCake(g *rand.Rand, length int) api.Cake {
	c := api.Cake{Len: length}
	for at := 0; at < length; at += g.Intn(1+length/5) + 1 {
		c.Cuts = append(c.Cuts, at)
		c.Dens = append(c.Dens, g.Intn(3)*g.Intn(7))
	}
	c.Cuts = append(c.Cuts, length)
	c.Dens[g.Intn(len(c.Dens))] = g.Intn(api.MaxDens) + 1
	return c
}

// turned returns a cake the other way round, which has its middle at the same distance from the other end if it is not in a part of no worth.
func turned(c api.Cake) api.Cake {
	d := api.Cake{Len: c.Len, Cuts: slices.Clone(c.Cuts), Dens: slices.Clone(c.Dens)}
	slices.Reverse(d.Cuts)
	slices.Reverse(d.Dens)
	for i, at := range d.Cuts {
		d.Cuts[i] = c.Len - at
	}
	return d
}

// parties returns random ones, the same ones each time: some agents agree about the cake, or about its middle.
func parties() []party {
	g := rand.New(rand.NewSource(11))
	var l []party
	for i := range 4000 {
		length := g.Intn(15) + 1
		if i%20 == 0 {
			length = g.Intn(api.MaxLen) + 1
		}
		a, b := randomCake(g, length), randomCake(g, length)
		switch i % 10 {
		case 1:
			b = a
		case 2:
			b = turned(a)
		case 3:
			b = flat(length, g.Intn(api.MaxDens)+1)
		}
		if len(a.Cuts) <= api.MaxCuts && len(b.Cuts) <= api.MaxCuts {
			l = append(l, party{[]api.Cake{a, b}, g.Intn(2)})
		}
	}
	return l
}
