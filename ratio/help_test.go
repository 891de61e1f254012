package ratio_test

import (
	"math"
	"math/big"
	"math/rand"

	"parcener/api"
	"parcener/ratio"
)

const top = api.MaxRatio

// r writes a ratio short.
func r(num, den int64) api.Ratio { return api.Ratio{Num: num, Den: den} }

// exact returns a as a number of any size.
func exact(a api.Ratio) *big.Rat { return big.NewRat(a.Num, a.Den) }

// valid returns the valid ratio of x, or ErrRange: the reference with which results are compared.
func valid(x *big.Rat) (api.Ratio, api.Errno) {
	limit := big.NewInt(top)
	if x.Num().CmpAbs(limit) > 0 || x.Denom().CmpAbs(limit) > 0 {
		return api.Ratio{}, api.ErrRange
	}
	return r(x.Num().Int64(), x.Denom().Int64()), api.OK
}

// binary is a call with two ratios, beside the same on numbers of any size.
type binary struct {
	name  string
	call  func(a, b api.Ratio) (api.Ratio, api.Errno)
	exact func(a, b *big.Rat) *big.Rat
}

func binaries() []binary {
	return []binary{
		{"Add", ratio.Add, func(a, b *big.Rat) *big.Rat { return new(big.Rat).Add(a, b) }},
		{"Sub", ratio.Sub, func(a, b *big.Rat) *big.Rat { return new(big.Rat).Sub(a, b) }},
		{"Mul", ratio.Mul, func(a, b *big.Rat) *big.Rat { return new(big.Rat).Mul(a, b) }},
		{"Div", ratio.Div, func(a, b *big.Rat) *big.Rat { return new(big.Rat).Quo(a, b) }},
	}
}

// want returns what the call should return for valid ratios.
func (o binary) want(a, b api.Ratio) (api.Ratio, api.Errno) {
	if o.name == "Div" && b.Num == 0 {
		return api.Ratio{}, api.ErrZero
	}
	return valid(o.exact(exact(a), exact(b)))
}

// edges returns all valid ratios of numbers at which something could go wrong: the ends of the range, powers, primes, and their neighbours.
func edges() []api.Ratio {
	sizes := []int64{
		1, 2, 3, 6, 7, 60,
		999999999, 1000000000, 1000000007,
		1<<31 - 1, 1 << 32, 1<<59 - 1, 1 << 59,
		450283905890997363, 499999999999999999, 500000000000000000,
		top - 11, top - 2, top - 1, top,
	}
	l := []api.Ratio{r(0, 1)}
	for _, n := range sizes {
		for _, d := range sizes {
			if inLowestTerms := exact(r(n, d)).Denom().Int64() == d; inLowestTerms {
				l = append(l, r(n, d), r(-n, d))
			}
		}
	}
	return l
}

// invalid returns ratios that break each part of the definition.
func invalid() []api.Ratio {
	return []api.Ratio{
		{},
		r(1, 0), r(1, -1), r(-1, -2), r(0, -1), r(1, -top), r(1, math.MinInt64), r(1, -math.MaxInt64),
		r(1, top+1), r(1, math.MaxInt64), r(top+1, 1), r(-top-1, 1),
		r(math.MaxInt64, 1), r(-math.MaxInt64, 1), r(math.MinInt64, 1),
		r(math.MinInt64, math.MinInt64), r(math.MaxInt64, math.MaxInt64),
		r(0, 2), r(0, top), r(2, 4), r(-2, 4), r(3, 3), r(-top, top), r(top, 2), r(2, top),
		r(999999999, 999999999999999999),
	}
}

// random returns a valid ratio, whose numbers may be long or short.
func random(g *rand.Rand) api.Ratio {
	num := (g.Int63() >> g.Intn(63)) % (top + 1)
	den := (g.Int63()>>g.Intn(63))%top + 1
	if g.Intn(2) == 0 {
		num = -num
	}
	a, _ := valid(big.NewRat(num, den))
	return a
}

// pairs returns all pairs of edges, and random ones (the same ones each time), of which many have denominators with a common divisor.
func pairs() [][2]api.Ratio {
	var l [][2]api.Ratio
	for _, a := range edges() {
		for _, b := range edges() {
			l = append(l, [2]api.Ratio{a, b})
		}
	}
	g := rand.New(rand.NewSource(1))
	for range 20000 {
		a, b := random(g), random(g)
		if g.Intn(2) == 0 {
			b, _ = valid(big.NewRat(b.Num, a.Den))
		}
		l = append(l, [2]api.Ratio{a, b})
	}
	return l
}
