package cake_test

import (
	"math"
	"math/big"
	"math/rand"

	"parcener/api"
)

const top = api.MaxRatio

// r writes a ratio short.
func r(num, den int64) api.Ratio { return api.Ratio{Num: num, Den: den} }

// sample is the cake of the chapter's examples.
func sample() api.Cake {
	return api.Cake{Len: 10, Cuts: []int{0, 4, 6, 10}, Dens: []int{2, 0, 3}}
}

// flat returns a cake with one density.
func flat(length, density int) api.Cake {
	return api.Cake{Len: length, Cuts: []int{0, length}, Dens: []int{density}}
}

// striped returns a cake with so many cuts, one behind the other.
func striped(cuts int) api.Cake {
	c := api.Cake{Len: cuts - 1, Cuts: []int{0}}
	for i := 1; i < cuts; i++ {
		c.Cuts = append(c.Cuts, i)
		c.Dens = append(c.Dens, i%13)
	}
	return c
}

// flawed is a cake that is not valid, and Check's error of it.
type flawed struct {
	c api.Cake
	e api.Errno
}

// flaws returns cakes that break each part of the definition.
func flaws() []flawed {
	many, bad := api.ErrMany, api.ErrBad
	return []flawed{
		{api.Cake{}, bad},
		{api.Cake{Len: 5}, bad},
		{api.Cake{Len: 5, Dens: []int{1}}, bad},
		{api.Cake{Len: 5, Cuts: []int{0}}, bad},
		{api.Cake{Len: 5, Cuts: []int{5}, Dens: []int{}}, bad},
		{api.Cake{Len: 0, Cuts: []int{0, 0}, Dens: []int{1}}, bad},
		{api.Cake{Len: -5, Cuts: []int{0, -5}, Dens: []int{1}}, bad},
		{api.Cake{Len: math.MinInt, Cuts: []int{0, math.MinInt}, Dens: []int{1}}, bad},
		{api.Cake{Len: 5, Cuts: []int{0, 5}}, bad},
		{api.Cake{Len: 5, Cuts: []int{0, 5}, Dens: []int{1, 1}}, bad},
		{api.Cake{Len: 5, Cuts: []int{0, 2, 5}, Dens: []int{1}}, bad},
		{api.Cake{Len: 5, Cuts: []int{0, 5}, Dens: make([]int, 1000)}, bad},
		{api.Cake{Len: 5, Cuts: []int{1, 5}, Dens: []int{1}}, bad},
		{api.Cake{Len: 5, Cuts: []int{-1, 5}, Dens: []int{1}}, bad},
		{api.Cake{Len: 5, Cuts: []int{0, 4}, Dens: []int{1}}, bad},
		{api.Cake{Len: 5, Cuts: []int{0, 6}, Dens: []int{1}}, bad},
		{api.Cake{Len: 5, Cuts: []int{0, 2, 2, 5}, Dens: []int{1, 1, 1}}, bad},
		{api.Cake{Len: 5, Cuts: []int{0, 3, 2, 5}, Dens: []int{1, 1, 1}}, bad},
		{api.Cake{Len: 5, Cuts: []int{0, 0, 5}, Dens: []int{1, 1}}, bad},
		{api.Cake{Len: 5, Cuts: []int{0, 5, 5}, Dens: []int{1, 1}}, bad},
		{api.Cake{Len: 5, Cuts: []int{0, math.MaxInt, 5}, Dens: []int{1, 1}}, bad},
		{api.Cake{Len: 5, Cuts: []int{0, 5}, Dens: []int{-1}}, bad},
		{api.Cake{Len: 5, Cuts: []int{0, 5}, Dens: []int{api.MaxDens + 1}}, bad},
		{api.Cake{Len: 5, Cuts: []int{0, 2, 5}, Dens: []int{1, 13}}, bad},
		{api.Cake{Len: 5, Cuts: []int{0, 2, 5}, Dens: []int{-1, 1}}, bad},
		{api.Cake{Len: 5, Cuts: []int{0, 5}, Dens: []int{0}}, bad},
		{api.Cake{Len: 5, Cuts: []int{0, 2, 5}, Dens: []int{0, 0}}, bad},
		{flat(api.MaxLen+1, 1), many},
		{flat(math.MaxInt, 1), many},
		{striped(api.MaxCuts + 1), many},
		{api.Cake{Len: 5, Cuts: make([]int, api.MaxCuts+1)}, many},
		{api.Cake{Len: api.MaxLen + 1}, many},
		{api.Cake{Len: api.MaxLen + 1, Cuts: make([]int, api.MaxCuts+1), Dens: []int{-1}}, many},
		{api.Cake{Len: -1, Cuts: make([]int, api.MaxCuts+1)}, many},
	}
}

// noPoints returns ratios that are not points of a cake of the length 10: invalid ones, and others.
func noPoints() []api.Ratio {
	return []api.Ratio{
		{}, r(1, 0), r(1, -1), r(2, 4), r(0, 2), r(20, 4), r(-1, -2), r(top+1, top), r(1, top+1), r(math.MinInt64, math.MinInt64),
		r(-1, 1), r(-1, top), r(-top, 1), r(11, 1), r(21, 2), r(100000000000000001, 10000000000000000), r(top, 1),
	}
}

// exact returns a as a number of any size.
func exact(a api.Ratio) *big.Rat { return big.NewRat(a.Num, a.Den) }

// number returns n as a number of any size.
func number(n int) *big.Rat { return big.NewRat(int64(n), 1) }

// fits reports whether x has a ratio.
func fits(x *big.Rat) bool {
	limit := big.NewInt(top)
	return x.Num().CmpAbs(limit) <= 0 && x.Denom().CmpAbs(limit) <= 0
}

// ratioOf returns the ratio of x, which has one.
func ratioOf(x *big.Rat) api.Ratio { return r(x.Num().Int64(), x.Denom().Int64()) }

// upTo returns the value from 0 to x, with numbers of any size.
func upTo(c api.Cake, x *big.Rat) *big.Rat {
	sum := new(big.Rat)
	for i, d := range c.Dens {
		length := new(big.Rat).Sub(lesser(x, number(c.Cuts[i+1])), number(c.Cuts[i]))
		if length.Sign() > 0 {
			sum.Add(sum, length.Mul(length, number(d)))
		}
	}
	return sum
}

// markOf returns the mark from a for v with numbers of any size, or nil if there is none.
func markOf(c api.Cake, a, v *big.Rat) *big.Rat {
	if v.Sign() == 0 {
		return a
	}
	goal := new(big.Rat).Add(upTo(c, a), v)
	for i, d := range c.Dens {
		over := new(big.Rat).Sub(upTo(c, number(c.Cuts[i+1])), goal)
		if over.Sign() >= 0 {
			return over.Sub(number(c.Cuts[i+1]), over.Quo(over, number(d)))
		}
	}
	return nil
}

// wantValue returns what Value should return for two points in order: the reference, which sees numbers on the way apart from the result.
func wantValue(c api.Cake, a, b api.Ratio) (api.Ratio, api.Errno) {
	from, to := exact(a), exact(b)
	for i, d := range c.Dens {
		begin, end := greater(from, number(c.Cuts[i])), lesser(to, number(c.Cuts[i+1]))
		if d == 0 || begin.Cmp(end) >= 0 {
			continue
		}
		length := new(big.Rat).Sub(end, begin)
		sum := new(big.Rat).Sub(upTo(c, end), upTo(c, from))
		if !fits(length) || !fits(new(big.Rat).Mul(length, number(d))) || !fits(sum) {
			return api.Ratio{}, api.ErrRange
		}
	}
	return ratioOf(new(big.Rat).Sub(upTo(c, to), upTo(c, from))), api.OK
}

// wantMark returns what Mark should return for a point and a value: the reference.
func wantMark(c api.Cake, a, v api.Ratio) (api.Ratio, api.Errno) {
	from := exact(a)
	mark := markOf(c, from, exact(v))
	for i, d := range c.Dens {
		begin, end := greater(from, number(c.Cuts[i])), number(c.Cuts[i+1])
		if d == 0 || begin.Cmp(end) >= 0 || mark != nil && mark.Cmp(begin) <= 0 {
			continue
		}
		length := new(big.Rat).Sub(end, begin)
		numbers := []*big.Rat{length, new(big.Rat).Mul(length, number(d))}
		if mark != nil && mark.Cmp(end) <= 0 {
			numbers = append(numbers, new(big.Rat).Sub(mark, begin), mark)
		} else {
			passed := new(big.Rat).Sub(upTo(c, end), upTo(c, from))
			numbers = append(numbers, passed.Sub(exact(v), passed))
		}
		for _, x := range numbers {
			if !fits(x) {
				return api.Ratio{}, api.ErrRange
			}
		}
	}
	if mark == nil {
		return api.Ratio{}, api.ErrNone
	}
	return ratioOf(mark), api.OK
}

// lesser returns the lesser one of both.
func lesser(x, y *big.Rat) *big.Rat {
	if x.Cmp(y) < 0 {
		return x
	}
	return y
}

// greater returns the greater one of both.
func greater(x, y *big.Rat) *big.Rat {
	if x.Cmp(y) > 0 {
		return x
	}
	return y
}

// randomCake returns a valid cake, of any size that is allowed, in which densities often are 0, or the same twice.
func randomCake(g *rand.Rand) api.Cake {
	many := g.Intn(8) + 1
	if g.Intn(5) == 0 {
		many = api.MaxCuts - 1
	}
	longest := (api.MaxLen-many)/many + 1
	if g.Intn(2) == 0 {
		longest = min(longest, 4)
	}
	c := api.Cake{Cuts: []int{0}}
	for range many {
		c.Len += g.Intn(longest) + 1
		c.Cuts = append(c.Cuts, c.Len)
		c.Dens = append(c.Dens, g.Intn(4)*g.Intn(5))
	}
	c.Dens[g.Intn(many)] = g.Intn(api.MaxDens) + 1
	return c
}

// randomRatio returns a ratio from 0 to most, whose numbers may be short or long.
func randomRatio(g *rand.Rand, most int) api.Ratio {
	den := int64(g.Intn(6) + 1)
	switch g.Intn(8) {
	case 0:
		den = (g.Int63()>>g.Intn(63))%(top/int64(most)) + 1
	case 1:
		den = top / int64(most)
	case 2:
		return ratioOf(big.NewRat(1, top-int64(g.Intn(3))))
	}
	return ratioOf(big.NewRat(g.Int63n(int64(most)*den+1), den))
}

// question is a cake with two points in order, and a value.
type question struct {
	c    api.Cake
	a, b api.Ratio
	v    api.Ratio
}

// questions returns random ones, the same ones each time.
func questions() []question {
	g := rand.New(rand.NewSource(2))
	var l []question
	for range 8000 {
		c := randomCake(g)
		a, b := randomRatio(g, c.Len), randomRatio(g, c.Len)
		if exact(a).Cmp(exact(b)) > 0 {
			a, b = b, a
		}
		most := int64(1)
		for i, d := range c.Dens {
			most += int64(d * (c.Cuts[i+1] - c.Cuts[i]))
		}
		l = append(l, question{c, a, b, randomRatio(g, int(most))})
	}
	return l
}
