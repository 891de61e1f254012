package knife_test

import (
	"slices"
	"testing"

	"parcener/api"
	"parcener/knife"
)

// runs returns cakes, and how one knife divides them.
func runs() []ran {
	zero, one, two := r(0, 1), r(1, 1), r(2, 1)
	return []ran{
		// the chapter's example
		{example(), []api.Span{span(r(2, 3), r(8, 3)), span(r(8, 3), r(6, 1)), span(zero, r(2, 3))}, []int{2, 0, 1},
			[]api.Query{
				marked(0, zero, two, two), marked(1, zero, r(4, 1), r(4, 1)), marked(2, zero, r(4, 3), r(2, 3)),
				marked(0, r(2, 3), two, r(8, 3)), marked(1, r(2, 3), r(4, 1), r(25, 6)),
			}},
		// Alone an agent has all, and nobody is asked.
		{[]api.Cake{flat(5, 3)}, []api.Span{span(zero, r(5, 1))}, []int{0}, nil},
		{[]api.Cake{steps(0, 0, 1, 0)}, []api.Span{span(zero, r(4, 1))}, []int{0}, nil},
		// Of agents with the same mark that with the least number has the piece.
		{alike(2), []api.Span{span(zero, one), span(one, two)}, []int{0, 1},
			[]api.Query{marked(0, zero, one, one), marked(1, zero, two, one)}},
		{alike(3), []api.Span{span(zero, one), span(one, two), span(two, r(3, 1))}, []int{0, 1, 2},
			[]api.Query{
				marked(0, zero, one, one), marked(1, zero, two, one), marked(2, zero, r(3, 1), one),
				marked(1, one, two, two), marked(2, one, r(3, 1), two),
			}},
		{[]api.Cake{steps(0, 0, 3), flat(3, 1), steps(1, 1, 1)}, []api.Span{span(two, r(3, 1)), span(zero, one), span(one, two)}, []int{1, 2, 0},
			[]api.Query{
				marked(0, zero, one, r(7, 3)), marked(1, zero, one, one), marked(2, zero, one, one),
				marked(0, one, one, r(7, 3)), marked(2, one, one, two),
			}},
		// Who has the first mark is not always asked first, nor last.
		{wanting(2, 0, 1), []api.Span{span(r(4, 3), r(3, 1)), span(zero, r(1, 3)), span(r(1, 3), r(4, 3))}, []int{1, 2, 0},
			[]api.Query{
				marked(0, zero, r(1, 3), r(7, 3)), marked(1, zero, r(1, 3), r(1, 3)), marked(2, zero, r(1, 3), r(4, 3)),
				marked(0, r(1, 3), r(1, 3), r(7, 3)), marked(2, r(1, 3), r(1, 3), r(4, 3)),
			}},
		// Marks are the least points: what nobody wants there is left to those behind.
		{[]api.Cake{steps(1, 0, 1), steps(1, 0, 1)}, []api.Span{span(zero, one), span(one, r(3, 1))}, []int{0, 1},
			[]api.Query{marked(0, zero, one, one), marked(1, zero, one, one)}},
		{[]api.Cake{steps(0, 0, 1), steps(0, 1, 0)}, []api.Span{span(r(3, 2), r(3, 1)), span(zero, r(3, 2))}, []int{1, 0},
			[]api.Query{marked(0, zero, r(1, 2), r(5, 2)), marked(1, zero, r(1, 2), r(3, 2))}},
		{[]api.Cake{flat(api.MaxLen, api.MaxDens), flat(api.MaxLen, 1)}, []api.Span{span(zero, r(500, 1)), span(r(500, 1), r(1000, 1))}, []int{0, 1},
			[]api.Query{marked(0, zero, r(6000, 1), r(500, 1)), marked(1, zero, r(500, 1), r(500, 1))}},
	}
}

// P11.1: one knife gives these pieces, in this order, with these queries.
func TestSpans(t *testing.T) {
	for _, c := range runs() {
		d, order, log, e := knife.Spans(c.l)
		if !sameDivision(d, c.division()) || !slices.Equal(order, c.order) || !slices.Equal(log, c.log) || e != api.OK {
			t.Errorf("Spans(%v) = %v, %v, %v, %v; want %v, %v, %v", c.l, d, order, log, e, c.division(), c.order, c.log)
		}
	}
}

// P11.1: as many agents as there may be, who want what lies in all orders, have pieces in these.
func TestSpansOfMany(t *testing.T) {
	for _, places := range [][]int{{0, 1, 2, 3, 4, 5}, {5, 4, 3, 2, 1, 0}, {3, 0, 5, 1, 4, 2}, {1, 2, 3, 4, 5, 0}} {
		want := make([]int, len(places))
		for agent, place := range places {
			want[place] = agent
		}
		d, order, log, e := knife.Spans(wanting(places...))
		if !slices.Equal(order, want) || len(log) != 20 || len(d.Pieces) != len(places) || e != api.OK {
			t.Errorf("%v: Spans = %v, %v, %v, %v; want the order %v", places, d, order, log, e, want)
		}
	}
}

// P11.1: with cakes that are not those of a desk, Spans has ask.Check's error, and all else is zero.
func TestSpansOfBadCakes(t *testing.T) {
	for _, f := range badDesks() {
		if d, order, log, e := knife.Spans(f.l); len(d.Pieces) != 0 || len(order) != 0 || len(log) != 0 || e != f.e {
			t.Errorf("Spans(%v) = %v, %v, %v, %v; want %v", f.l, d, order, log, e, f.e)
		}
	}
}

// P11.2: other knives that are easily seen, also of cakes that are not hungry, for which they are the least points.
func TestOther(t *testing.T) {
	uneven := api.Cake{Len: 4, Cuts: []int{0, 1, 4}, Dens: []int{3, 1}}
	for _, c := range []struct {
		a          api.Cake
		from, want api.Ratio
	}{
		{flat(4, 1), r(0, 1), r(2, 1)},
		{flat(4, 1), r(1, 2), r(5, 2)},
		{flat(4, 7), r(4, 3), r(10, 3)},
		{flat(4, 1), r(2, 1), r(4, 1)},
		{flat(3, 1), r(0, 1), r(3, 2)},
		{flat(1, 1), r(1, 7), r(9, 14)},
		{uneven, r(0, 1), r(1, 1)},
		{uneven, r(1, 2), r(5, 2)},
		{uneven, r(1, 1), r(4, 1)},
		{steps(1, 0, 1), r(0, 1), r(1, 1)},
		{steps(1, 0, 1), r(1, 1), r(3, 1)},
		{steps(1, 0, 1), r(2, 1), r(3, 1)},
		{steps(1, 0, 1), r(1, 2), r(5, 2)},
		{steps(0, 4, 0), r(0, 1), r(3, 2)},
		{steps(0, 4, 0), r(3, 2), r(2, 1)},
		{flat(1, 1), r(1, top), r(top/2+1, top)},
		{steps(0, 2), r(1, top), r(3, 2)},
		{flat(api.MaxLen, api.MaxDens), r(500, 1), r(1000, 1)},
	} {
		if got, e := knife.Other(c.a, c.from); got != c.want || e != api.OK {
			t.Errorf("Other(%v, %v) = %v, %v; want %v", c.a, c.from, got, e, c.want)
		}
	}
}

// P11.2: the cake's error, ErrArg for what is no point, and the mark's error, in this order.
func TestOtherErrors(t *testing.T) {
	check := func(a api.Cake, from api.Ratio, want api.Errno) {
		t.Helper()
		if got, e := knife.Other(a, from); got != (api.Ratio{}) || e != want {
			t.Errorf("Other(%v, %v) = %v, %v; want %v", a, from, got, e, want)
		}
	}
	for _, f := range badCakes() {
		for _, from := range append(noPoints(2), r(0, 1), r(2, 1), r(1, top)) {
			check(f.l[0], from, f.e)
		}
	}
	for _, a := range []api.Cake{flat(2, 1), steps(0, 1), steps(1, 0)} {
		for _, from := range noPoints(2) {
			check(a, from, api.ErrArg)
		}
	}
	for _, c := range failing() {
		check(c.a, c.from, c.e)
	}
}

// failure is two cakes that have no gap for a point, and the error of it.
type failure struct {
	a, b api.Cake
	from api.Ratio
	e    api.Errno
}

// failing returns cakes without another knife for a point: less than half lies behind it, or a number on the way has no ratio.
func failing() []failure {
	none, out, any2 := api.ErrNone, api.ErrRange, flat(2, 1)
	return []failure{
		{flat(2, 1), any2, r(3, 2), none},
		{flat(2, 1), any2, r(2, 1), none},
		{flat(2, 1), any2, r(1000001, 1000000), none},
		{steps(2, 1), any2, r(1, 1), none},
		{steps(1, 0), any2, r(3, 4), none},
		{steps(1, 0), any2, r(1, 1), none},
		{flat(2, 1), any2, r(top, top-1), none},
		// the length up to the end, the mark, and what is left behind the only interval, which comes ahead of ErrNone
		{flat(2, 1), any2, r(1, top), out},
		{steps(0, 1), any2, r(top, top-1), out},
		{steps(0, 1), any2, r(999999999999999989, 600000000000000001), out},
	}
}

// P11.2: gaps that are easily seen, also of cakes that are not hungry.
func TestGap(t *testing.T) {
	even, uneven := flat(4, 1), api.Cake{Len: 4, Cuts: []int{0, 1, 4}, Dens: []int{3, 1}}
	for _, c := range []struct {
		a, b       api.Cake
		from, want api.Ratio
	}{
		// the chapter's example, and the same cakes exchanged
		{even, uneven, r(0, 1), r(1, 1)},
		{even, uneven, r(1, 1), r(-1, 1)},
		{even, uneven, r(1, 2), r(0, 1)},
		{even, uneven, r(1, 4), r(1, 2)},
		{even, uneven, r(2, 1), r(-1, 1)},
		{uneven, even, r(0, 1), r(-1, 1)},
		{uneven, even, r(1, 2), r(0, 1)},
		{uneven, even, r(1, 1), r(1, 1)},
		{even, even, r(4, 3), r(0, 1)},
		{even, flat(4, 3), r(1, 2), r(0, 1)},
		{flat(1, 1), flat(1, 1), r(1, top), r(0, 1)},
		// what has no value
		{steps(1, 0, 1), steps(0, 3, 0), r(0, 1), r(-3, 2)},
		{steps(1, 0, 1), steps(0, 3, 0), r(1, 1), r(3, 2)},
		{steps(1, 0, 1), steps(0, 3, 0), r(1, 2), r(3, 2)},
		{steps(0, 3, 0), steps(1, 0, 1), r(0, 1), r(0, 1)},
		{steps(0, 3, 0), steps(1, 0, 1), r(3, 2), r(-1, 1)},
		{steps(0, 3, 0), steps(1, 0, 1), r(1, 2), r(-1, 2)},
		// A point that has hardly a ratio need not be seen in the gap, or the gap has one.
		{steps(0, 2), steps(0, 3), r(1, top), r(0, 1)},
		{steps(0, 2), steps(1, 0), r(1, top), r(top/2-1, top)},
		{steps(0, 2), steps(1, 0), r(1, top-2), r(top/4-1, top/2-1)},
		{flat(api.MaxLen, 1), flat(api.MaxLen, api.MaxDens), r(1, 3), r(0, 1)},
	} {
		if got, e := knife.Gap(c.a, c.b, c.from); got != c.want || e != api.OK {
			t.Errorf("Gap(%v, %v, %v) = %v, %v; want %v", c.a, c.b, c.from, got, e, c.want)
		}
	}
}

// checkGap reports a gap that does not have an error, or anything beside it.
func checkGap(t *testing.T, a, b api.Cake, from api.Ratio, want api.Errno) {
	t.Helper()
	if got, e := knife.Gap(a, b, from); got != (api.Ratio{}) || e != want {
		t.Errorf("Gap(%v, %v, %v) = %v, %v; want %v", a, b, from, got, e, want)
	}
}

// P11.2: the error of the desk, also of the second cake, comes ahead of that of the other knife.
func TestGapOfBadCakes(t *testing.T) {
	for _, f := range badPairs() {
		for _, from := range append(noPoints(2), r(0, 1), r(2, 1), r(1, top)) {
			checkGap(t, f.l[0], f.l[1], from, f.e)
		}
	}
}

// P11.2: the error of the other knife of the first cake, and then that of the value, or of the difference.
func TestGapErrors(t *testing.T) {
	for _, a := range []api.Cake{flat(2, 1), steps(0, 1), steps(1, 0)} {
		for _, from := range noPoints(2) {
			checkGap(t, a, steps(3, 4), from, api.ErrArg)
		}
	}
	for _, c := range failing() {
		checkGap(t, c.a, c.b, c.from, c.e)
	}
	for _, c := range []failure{
		// the length, its value, and the sum so far
		{steps(0, 2), flat(2, 1), r(1, top), api.ErrRange},
		{steps(0, 2), steps(3, 0), r(1, top), api.ErrRange},
		{steps(0, 2), steps(1, 1), r(1, top), api.ErrRange},
		// The value has a ratio, the difference has none.
		{steps(0, 2), steps(1, 0), r(1, top-1), api.ErrRange},
	} {
		if _, e := knife.Other(c.a, c.from); e != api.OK {
			t.Errorf("Other(%v, %v) = %v", c.a, c.from, e)
		}
		checkGap(t, c.a, c.b, c.from, c.e)
	}
}

// halved is two hungry cakes, and their halves.
type halved struct {
	a, b api.Cake
	want api.Span
}

func halves() []halved {
	even, uneven := flat(4, 1), api.Cake{Len: 4, Cuts: []int{0, 1, 4}, Dens: []int{3, 1}}
	return []halved{
		// the chapter's example, and the same cakes exchanged
		{even, uneven, span(r(1, 2), r(5, 2))},
		{uneven, even, span(r(1, 2), r(5, 2))},
		// The gap is 0 at the beginning, and then stays so, or grows.
		{even, even, span(r(0, 1), r(2, 1))},
		{flat(1, 1), flat(1, 12), span(r(0, 1), r(1, 2))},
		{flat(1, 5), flat(1, 2), span(r(0, 1), r(1, 2))},
		{uneven, uneven, span(r(0, 1), r(1, 1))},
		{even, steps(1, 2, 2, 1), span(r(0, 1), r(2, 1))},
		{even, steps(2, 1, 1, 2), span(r(0, 1), r(2, 1))},
		{flat(8, 1), steps(3, 1, 1, 1, 1, 2, 2, 1), span(r(0, 1), r(4, 1))},
		// It is 0 at a cut, behind which it stays so, changes on, or turns back.
		{flat(8, 1), steps(2, 1, 1, 2, 1, 1, 1, 1), span(r(1, 1), r(5, 1))},
		{flat(6, 2), steps(3, 3, 3, 1, 3, 1), span(r(1, 1), r(4, 1))},
		{flat(8, 1), steps(2, 2, 1, 1, 1, 1, 1, 1), span(r(1, 1), r(5, 1))},
		{even, steps(2, 4, 3, 5), span(r(1, 1), r(3, 1))},
		{flat(6, 1), steps(2, 1, 3, 1, 2, 1), span(r(1, 1), r(4, 1))},
		// It is 0 between cuts, before which it changes at another speed, or grows.
		{even, steps(1, 1, 2, 1), span(r(1, 2), r(5, 2))},
		{even, steps(1, 4, 3, 5), span(r(3, 4), r(11, 4))},
		{flat(6, 1), steps(5, 3, 3, 3, 2, 1), span(r(3, 2), r(9, 2))},
		{flat(6, 1), steps(1, 5, 3, 2, 1, 1), span(r(15, 8), r(39, 8))},
		{flat(3, 1), steps(1, 1, 12), span(r(1, 1), r(5, 2))},
		// The other knife goes at another speed, or changes it on the way.
		{steps(3, 1), steps(1, 3), span(r(1, 2), r(3, 2))},
		{steps(1, 3), steps(3, 1), span(r(1, 2), r(3, 2))},
		{steps(1, 2), flat(2, 1), span(r(1, 2), r(3, 2))},
		{steps(1, 2, 3), steps(4, 1, 1), span(r(6, 11), r(24, 11))},
		{steps(4, 1, 1), steps(1, 2, 3), span(r(6, 11), r(24, 11))},
		{flat(api.MaxLen, 1), flat(api.MaxLen, api.MaxDens), span(r(0, 1), r(500, 1))},
	}
}

// P11.3: halves that are easily seen.
func TestHalf(t *testing.T) {
	for _, c := range halves() {
		if got, e := knife.Half(c.a, c.b); got != c.want || e != api.OK {
			t.Errorf("Half(%v, %v) = %v, %v; want %v", c.a, c.b, got, e, c.want)
		}
	}
}

// P11.3: the error of the desk comes ahead of ErrArg for cakes that are not hungry.
func TestHalfErrors(t *testing.T) {
	check := func(a, b api.Cake, want api.Errno) {
		t.Helper()
		if got, e := knife.Half(a, b); got != (api.Span{}) || e != want {
			t.Errorf("Half(%v, %v) = %v, %v; want %v", a, b, got, e, want)
		}
	}
	for _, f := range badPairs() {
		check(f.l[0], f.l[1], f.e)
	}
	sated := []api.Cake{steps(0, 1, 1), steps(1, 0, 1), steps(1, 1, 0), steps(0, 0, 5), steps(0, 7, 0)}
	for _, a := range sated {
		for _, b := range []api.Cake{flat(3, 1), steps(1, 2, 3)} {
			check(a, b, api.ErrArg)
			check(b, a, api.ErrArg)
		}
		for _, b := range sated {
			check(a, b, api.ErrArg)
		}
	}
}
