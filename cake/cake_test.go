package cake_test

import (
	"math"
	"testing"

	"parcener/api"
	"parcener/cake"
)

// P2.1: Check tells ErrMany ahead of ErrBad, and accepts all valid cakes.
func TestCheck(t *testing.T) {
	for _, c := range []api.Cake{
		sample(), flat(1, 1), flat(1, api.MaxDens), flat(api.MaxLen, api.MaxDens), striped(api.MaxCuts),
		{Len: 3, Cuts: []int{0, 1, 3}, Dens: []int{0, 1}},
		{Len: 3, Cuts: []int{0, 1, 3}, Dens: []int{1, 0}},
		{Len: 3, Cuts: []int{0, 1, 2, 3}, Dens: []int{0, 5, 0}},
		{Len: 3, Cuts: []int{0, 1, 2, 3}, Dens: []int{4, 4, 4}},
	} {
		if e := cake.Check(c); e != api.OK {
			t.Errorf("Check(%v) = %v", c, e)
		}
	}
	for _, q := range questions() {
		if e := cake.Check(q.c); e != api.OK {
			t.Errorf("Check(%v) = %v", q.c, e)
		}
	}
	for _, f := range flaws() {
		if e := cake.Check(f.c); e != f.e {
			t.Errorf("Check(%v) = %v; want %v", f.c, e, f.e)
		}
	}
}

// P2.1: the total is the value of all of the cake.
func TestTotal(t *testing.T) {
	for _, k := range []struct {
		c    api.Cake
		want int
	}{
		{sample(), 20},
		{flat(1, 1), 1},
		{flat(api.MaxLen, api.MaxDens), 12000},
		{api.Cake{Len: 3, Cuts: []int{0, 1, 2, 3}, Dens: []int{0, 5, 0}}, 5},
		{api.Cake{Len: 6, Cuts: []int{0, 4, 6}, Dens: []int{1, 4}}, 12},
	} {
		if got, e := cake.Total(k.c); got != k.want || e != api.OK {
			t.Errorf("Total(%v) = %d, %v; want %d", k.c, got, e, k.want)
		}
	}
}

// P2.1: the density at a cut is that behind it, but at the end that before it.
func TestDensity(t *testing.T) {
	for _, k := range []struct {
		at   api.Ratio
		want int
	}{
		{r(0, 1), 2}, {r(1, top), 2}, {r(2, 1), 2}, {r(7, 2), 2}, {r(399999999999999999, 100000000000000000), 2},
		{r(4, 1), 0}, {r(400000000000000001, 100000000000000000), 0}, {r(5, 1), 0}, {r(59, 10), 0},
		{r(6, 1), 3}, {r(61, 10), 3}, {r(19, 2), 3}, {r(10, 1), 3},
	} {
		if got, e := cake.Density(sample(), k.at); got != k.want || e != api.OK {
			t.Errorf("Density(%v) = %d, %v; want %d", k.at, got, e, k.want)
		}
	}
	unwanted := api.Cake{Len: 2, Cuts: []int{0, 1, 2}, Dens: []int{7, 0}}
	for at, want := range []int{7, 0, 0} {
		if got, e := cake.Density(unwanted, r(int64(at), 1)); got != want || e != api.OK {
			t.Errorf("Density(%d) = %d, %v; want %d", at, got, e, want)
		}
	}
	for _, p := range noPoints() {
		if got, e := cake.Density(sample(), p); got != 0 || e != api.ErrArg {
			t.Errorf("Density(%v) = %d, %v", p, got, e)
		}
	}
}

// P2.1: Same compares any cakes, number by number.
func TestSame(t *testing.T) {
	different := []api.Cake{
		{}, {Len: 10}, {Len: -10}, {Cuts: []int{0}}, {Dens: []int{0}}, {Cuts: []int{0, 0}},
		sample(),
		{Len: 11, Cuts: []int{0, 4, 6, 10}, Dens: []int{2, 0, 3}},
		{Len: 10, Cuts: []int{0, 4, 7, 10}, Dens: []int{2, 0, 3}},
		{Len: 10, Cuts: []int{0, 4, 6, 10}, Dens: []int{2, 1, 3}},
		{Len: 10, Cuts: []int{0, 4, 6}, Dens: []int{2, 0, 3}},
		{Len: 10, Cuts: []int{0, 4, 6, 10}, Dens: []int{2, 0}},
		// The same densities everywhere, but other numbers.
		{Len: 10, Cuts: []int{0, 2, 4, 6, 10}, Dens: []int{2, 2, 0, 3}},
	}
	for i, a := range different {
		for k, b := range different {
			if got := cake.Same(a, b); got != (i == k) {
				t.Errorf("Same(%v, %v) = %v", a, b, got)
			}
		}
	}
	for _, f := range flaws() {
		if !cake.Same(f.c, f.c) {
			t.Errorf("Same(%v) with itself is false", f.c)
		}
	}
	if !cake.Same(sample(), sample()) {
		t.Error("Same is false for two cakes with the same numbers")
	}
	if !cake.Same(api.Cake{Cuts: []int{}, Dens: []int{}}, api.Cake{}) || !cake.Same(api.Cake{}, api.Cake{Cuts: []int{}}) {
		t.Error("Same tells nil from empty")
	}
}

// P2.2: values that are easily seen.
func TestValue(t *testing.T) {
	for _, k := range []struct{ a, b, want api.Ratio }{
		{r(1, 1), r(7, 1), r(9, 1)},
		{r(0, 1), r(10, 1), r(20, 1)},
		{r(0, 1), r(4, 1), r(8, 1)},
		{r(4, 1), r(6, 1), r(0, 1)},
		{r(9, 2), r(11, 2), r(0, 1)},
		{r(6, 1), r(10, 1), r(12, 1)},
		{r(1, 3), r(1, 2), r(1, 3)},
		{r(7, 2), r(13, 2), r(5, 2)},
		{r(19, 2), r(10, 1), r(3, 2)},
		{r(0, 1), r(0, 1), r(0, 1)},
		{r(7, 3), r(7, 3), r(0, 1)},
		{r(5, 1), r(5, 1), r(0, 1)},
		{r(10, 1), r(10, 1), r(0, 1)},
		{r(0, 1), r(1, top), r(1, top/2)},
		{r(1, top), r(1, top), r(0, 1)},
	} {
		if got, e := cake.Value(sample(), k.a, k.b); got != k.want || e != api.OK {
			t.Errorf("Value(%v, %v) = %v, %v; want %v", k.a, k.b, got, e, k.want)
		}
	}
}

// P2.2: ErrArg unless both are points, in order.
func TestValueArguments(t *testing.T) {
	for _, p := range noPoints() {
		for _, q := range append(noPoints(), r(0, 1), r(5, 1), r(10, 1)) {
			for _, pair := range [][2]api.Ratio{{p, q}, {q, p}} {
				if got, e := cake.Value(sample(), pair[0], pair[1]); got != (api.Ratio{}) || e != api.ErrArg {
					t.Errorf("Value(%v, %v) = %v, %v", pair[0], pair[1], got, e)
				}
			}
		}
	}
	for _, p := range [][2]api.Ratio{{r(1, 1), r(0, 1)}, {r(10, 1), r(0, 1)}, {r(5, 1), r(499999999999999999, 100000000000000000)}, {r(1, top-1), r(1, top)}} {
		if got, e := cake.Value(sample(), p[0], p[1]); got != (api.Ratio{}) || e != api.ErrArg {
			t.Errorf("Value(%v, %v) = %v, %v", p[0], p[1], got, e)
		}
	}
}

// P2.2: ErrRange for each number on the way, and for no other one.
func TestValueRange(t *testing.T) {
	for _, k := range []struct {
		what       string
		c          api.Cake
		a, b, want api.Ratio
		e          api.Errno
	}{
		{"the length", flat(2, 1), r(1, top), r(2, 1), api.Ratio{}, api.ErrRange},
		{"the length, though twice it has a ratio", flat(2, 2), r(1, top), r(2, 1), api.Ratio{}, api.ErrRange},
		{"the length between two points", flat(1, 1), r(1, top), r(1, top-1), api.Ratio{}, api.ErrRange},
		{"the length is in range", flat(1, 1), r(1, top), r(1, 1), r(top-1, top), api.OK},
		{"the length times the density", flat(1, 3), r(1, top), r(1, 1), api.Ratio{}, api.ErrRange},
		{"the length times the density is in range", flat(1, 2), r(1, top), r(1, 1), r(top-1, top/2), api.OK},
		{"the sum so far", api.Cake{Len: 2, Cuts: []int{0, 1, 2}, Dens: []int{1, 2}}, r(1, top), r(2, 1), api.Ratio{}, api.ErrRange},
		{"the sum so far, though the last one has a ratio", api.Cake{Len: 2, Cuts: []int{0, 1, 2}, Dens: []int{1, 1}}, r(1, top), r(top-1, top-2), api.Ratio{}, api.ErrRange},
		{"a length without a value", api.Cake{Len: 3, Cuts: []int{0, 2, 3}, Dens: []int{0, 5}}, r(1, top), r(3, 1), r(5, 1), api.OK},
		{"a length behind both", api.Cake{Len: 3, Cuts: []int{0, 1, 3}, Dens: []int{1, 5}}, r(1, top), r(1, 1), r(top-1, top), api.OK},
		{"a length that is not in common", flat(2, 1), r(1, top), r(1, 1), r(top-1, top), api.OK},
	} {
		if got, e := cake.Value(k.c, k.a, k.b); got != k.want || e != k.e {
			t.Errorf("%s: Value(%v, %v, %v) = %v, %v; want %v, %v", k.what, k.c, k.a, k.b, got, e, k.want, k.e)
		}
	}
}

// P2.3: marks that are easily seen.
func TestMark(t *testing.T) {
	for _, k := range []struct{ a, v, want api.Ratio }{
		{r(0, 1), r(8, 1), r(4, 1)},
		{r(0, 1), r(9, 1), r(19, 3)},
		{r(0, 1), r(20, 1), r(10, 1)},
		{r(0, 1), r(1, 1), r(1, 2)},
		{r(0, 1), r(17, 2), r(37, 6)},
		{r(1, 2), r(1, 3), r(2, 3)},
		{r(4, 1), r(3, 1), r(7, 1)},
		{r(5, 1), r(3, 1), r(7, 1)},
		{r(6, 1), r(3, 1), r(7, 1)},
		{r(13, 2), r(21, 2), r(10, 1)},
		{r(7, 2), r(1, 1), r(4, 1)},
		// For 0 it is the point itself, whatever is behind it.
		{r(5, 1), r(0, 1), r(5, 1)},
		{r(0, 1), r(0, 1), r(0, 1)},
		{r(4, 1), r(0, 1), r(4, 1)},
		{r(9, 2), r(0, 1), r(9, 2)},
		{r(7, 3), r(0, 1), r(7, 3)},
		{r(10, 1), r(0, 1), r(10, 1)},
	} {
		if got, e := cake.Mark(sample(), k.a, k.v); got != k.want || e != api.OK {
			t.Errorf("Mark(%v, %v) = %v, %v; want %v", k.a, k.v, got, e, k.want)
		}
	}
}

// P2.3: ErrArg unless there are a point, and a value of at least 0; ErrNone if all that is left is worth less.
func TestMarkArguments(t *testing.T) {
	for _, p := range noPoints() {
		for _, v := range []api.Ratio{r(0, 1), r(5, 1), r(21, 1), r(-1, 1), {}} {
			if got, e := cake.Mark(sample(), p, v); got != (api.Ratio{}) || e != api.ErrArg {
				t.Errorf("Mark(%v, %v) = %v, %v", p, v, got, e)
			}
		}
	}
	for _, v := range []api.Ratio{{}, r(1, 0), r(2, 4), r(0, 5), r(1, -1), r(-1, -1), r(top+1, 1), r(math.MinInt64, 1), r(-1, 1), r(-1, top), r(-top, 1)} {
		if got, e := cake.Mark(sample(), r(5, 1), v); got != (api.Ratio{}) || e != api.ErrArg {
			t.Errorf("Mark(5, %v) = %v, %v", v, got, e)
		}
	}
	for _, k := range []struct{ a, v api.Ratio }{
		{r(0, 1), r(21, 1)}, {r(0, 1), r(200001, 10000)}, {r(0, 1), r(top, 1)},
		{r(5, 1), r(25, 2)}, {r(10, 1), r(1, 1)}, {r(10, 1), r(1, top)}, {r(10, 1), r(top, 1)},
	} {
		if got, e := cake.Mark(sample(), k.a, k.v); got != (api.Ratio{}) || e != api.ErrNone {
			t.Errorf("Mark(%v, %v) = %v, %v", k.a, k.v, got, e)
		}
	}
	endless := api.Cake{Len: 3, Cuts: []int{0, 1, 3}, Dens: []int{1, 0}}
	for _, k := range []struct{ a, v api.Ratio }{{r(1, top), r(1, 1)}, {r(1, 1), r(1, top)}, {r(5, 2), r(1, 1)}} {
		if got, e := cake.Mark(endless, k.a, k.v); got != (api.Ratio{}) || e != api.ErrNone {
			t.Errorf("Mark(%v, %v, %v) = %v, %v", endless, k.a, k.v, got, e)
		}
	}
}

// P2.3: ErrRange for each number on the way, and for no other one.
func TestMarkRange(t *testing.T) {
	twoParts := api.Cake{Len: 2, Cuts: []int{0, 1, 2}, Dens: []int{1, 5}}
	for _, k := range []struct {
		what       string
		c          api.Cake
		a, v, want api.Ratio
		e          api.Errno
	}{
		{"the length to the end of the interval", flat(2, 1), r(1, top), r(1, top), api.Ratio{}, api.ErrRange},
		{"that length is in range", flat(1, 1), r(1, top), r(1, top), r(1, top/2), api.OK},
		{"that length times the density", flat(1, 3), r(1, top), r(3, top), api.Ratio{}, api.ErrRange},
		{"what is left behind an interval", twoParts, r(1, 2), r(top, top-1), api.Ratio{}, api.ErrRange},
		{"what is left behind an interval, divided", twoParts, r(0, 1), r(top, top-1), api.Ratio{}, api.ErrRange},
		{"what is left, divided", flat(1, 3), r(0, 1), r(1, top), api.Ratio{}, api.ErrRange},
		{"what is left, divided, is in range", flat(1, 3), r(0, 1), r(3, top), r(1, top), api.OK},
		{"the mark", flat(1, 1), r(1, 3), r(1, top), api.Ratio{}, api.ErrRange},
		{"the mark is in range", flat(1, 1), r(1, 5), r(1, top), r(200000000000000001, top), api.OK},
		{"for 0 nothing is on the way", flat(2, 3), r(1, top), r(0, 1), r(1, top), api.OK},
		{"a length without a value", api.Cake{Len: 3, Cuts: []int{0, 2, 3}, Dens: []int{0, 5}}, r(1, top), r(5, 2), r(5, 2), api.OK},
		{"the interval of the mark is not gone over for what is left behind it", flat(1, 1), r(1, 3), r(2, 9), r(5, 9), api.OK},
		{"a length behind the mark", twoParts, r(1, top), r(top-1, top), r(1, 1), api.OK},
		{"what is left in the second interval", api.Cake{Len: 2, Cuts: []int{0, 1, 2}, Dens: []int{1, 1}}, r(1, 3), r(top-2, top-3), api.Ratio{}, api.ErrRange},
		{"what is left, ahead of ErrNone", flat(1, 1), r(1, 2), r(top-2, top-1), api.Ratio{}, api.ErrRange},
		{"the length, ahead of ErrNone", flat(2, 1), r(1, top), r(top, 1), api.Ratio{}, api.ErrRange},
		{"none, with all in range", flat(2, 1), r(1, 2), r(2, 1), api.Ratio{}, api.ErrNone},
	} {
		if got, e := cake.Mark(k.c, k.a, k.v); got != k.want || e != k.e {
			t.Errorf("%s: Mark(%v, %v, %v) = %v, %v; want %v, %v", k.what, k.c, k.a, k.v, got, e, k.want, k.e)
		}
	}
}

// P2.4: Normal joins what has the same density.
func TestNormal(t *testing.T) {
	for _, k := range []struct{ c, want api.Cake }{
		{sample(), sample()},
		{flat(1000, 12), flat(1000, 12)},
		{api.Cake{Len: 3, Cuts: []int{0, 1, 2, 3}, Dens: []int{4, 4, 4}}, flat(3, 4)},
		{api.Cake{Len: 3, Cuts: []int{0, 1, 3}, Dens: []int{4, 5}}, api.Cake{Len: 3, Cuts: []int{0, 1, 3}, Dens: []int{4, 5}}},
		{api.Cake{Len: 4, Cuts: []int{0, 1, 2, 3, 4}, Dens: []int{0, 0, 1, 1}}, api.Cake{Len: 4, Cuts: []int{0, 2, 4}, Dens: []int{0, 1}}},
		{api.Cake{Len: 4, Cuts: []int{0, 1, 2, 3, 4}, Dens: []int{1, 0, 0, 1}}, api.Cake{Len: 4, Cuts: []int{0, 1, 3, 4}, Dens: []int{1, 0, 1}}},
		{api.Cake{Len: 4, Cuts: []int{0, 1, 2, 3, 4}, Dens: []int{2, 3, 2, 2}}, api.Cake{Len: 4, Cuts: []int{0, 1, 2, 4}, Dens: []int{2, 3, 2}}},
	} {
		if got, e := cake.Normal(k.c); !cake.Same(got, k.want) || e != api.OK {
			t.Errorf("Normal(%v) = %v, %v; want %v", k.c, got, e, k.want)
		}
	}
}

// P2.4: Part cuts out what lies between two whole numbers.
func TestPart(t *testing.T) {
	for _, k := range []struct {
		from, to int
		want     api.Cake
	}{
		{0, 10, sample()},
		{0, 4, flat(4, 2)},
		{6, 10, flat(4, 3)},
		{1, 3, flat(2, 2)},
		{3, 4, flat(1, 2)},
		{9, 10, flat(1, 3)},
		{0, 1, flat(1, 2)},
		{1, 7, api.Cake{Len: 6, Cuts: []int{0, 3, 5, 6}, Dens: []int{2, 0, 3}}},
		{4, 10, api.Cake{Len: 6, Cuts: []int{0, 2, 6}, Dens: []int{0, 3}}},
		{5, 7, api.Cake{Len: 2, Cuts: []int{0, 1, 2}, Dens: []int{0, 3}}},
		{0, 5, api.Cake{Len: 5, Cuts: []int{0, 4, 5}, Dens: []int{2, 0}}},
		{3, 6, api.Cake{Len: 3, Cuts: []int{0, 1, 3}, Dens: []int{2, 0}}},
	} {
		if got, e := cake.Part(sample(), k.from, k.to); !cake.Same(got, k.want) || e != api.OK {
			t.Errorf("Part(%d, %d) = %v, %v; want %v", k.from, k.to, got, e, k.want)
		}
	}
	// Cuts between equal densities stay.
	c := api.Cake{Len: 4, Cuts: []int{0, 1, 2, 3, 4}, Dens: []int{5, 5, 5, 5}}
	want := api.Cake{Len: 2, Cuts: []int{0, 1, 2}, Dens: []int{5, 5}}
	if got, e := cake.Part(c, 1, 3); !cake.Same(got, want) || e != api.OK {
		t.Errorf("Part(%v, 1, 3) = %v, %v; want %v", c, got, e, want)
	}
}

// P2.4: which numbers are no part, and which part is no cake.
func TestPartErrors(t *testing.T) {
	for _, k := range []struct {
		from, to int
		e        api.Errno
	}{
		{-1, 10, api.ErrArg}, {0, 11, api.ErrArg}, {-1, 11, api.ErrArg}, {-5, -1, api.ErrArg}, {11, 12, api.ErrArg}, {10, 11, api.ErrArg},
		{0, 0, api.ErrArg}, {5, 5, api.ErrArg}, {10, 10, api.ErrArg}, {7, 3, api.ErrArg}, {10, 0, api.ErrArg},
		{math.MinInt, math.MaxInt, api.ErrArg}, {math.MinInt, 5, api.ErrArg}, {5, math.MaxInt, api.ErrArg}, {math.MaxInt, math.MinInt, api.ErrArg}, {math.MaxInt, math.MaxInt, api.ErrArg},
		{4, 6, api.ErrNone}, {4, 5, api.ErrNone}, {5, 6, api.ErrNone},
	} {
		if got, e := cake.Part(sample(), k.from, k.to); !cake.Same(got, api.Cake{}) || e != k.e {
			t.Errorf("Part(%d, %d) = %v, %v; want %v", k.from, k.to, got, e, k.e)
		}
	}
}
