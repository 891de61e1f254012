package equal_test

import (
	"slices"
	"testing"

	"parcener/api"
	"parcener/equal"
)

// cases returns cakes, orders, and how the cakes are divided in these.
func cases() []divided {
	even := flat(6, 1)
	whole := func(n int64) api.Ratio { return r(n, 1) }
	all := []divided{
		// the chapter's example
		{example(), []int{0, 1}, r(2, 5), []api.Ratio{r(8, 5), whole(4)}},
		{example(), []int{1, 0}, r(3, 5), []api.Ratio{r(8, 5), whole(4)}},
		// Alone an agent has all.
		{[]api.Cake{flat(5, 3)}, []int{0}, whole(1), []api.Ratio{whole(5)}},
		{[]api.Cake{flat(1, 1)}, []int{0}, whole(1), []api.Ratio{whole(1)}},
		{[]api.Cake{steps(1, 2, 3)}, []int{0}, whole(1), []api.Ratio{whole(3)}},
		// An end is at a cut of its own cake, of the next one's, or of both.
		{[]api.Cake{early(), even}, []int{0, 1}, r(2, 3), []api.Ratio{whole(2), whole(6)}},
		{[]api.Cake{early(), even}, []int{1, 0}, r(1, 3), []api.Ratio{whole(2), whole(6)}},
		{[]api.Cake{early(), early()}, []int{1, 0}, r(1, 2), []api.Ratio{r(3, 2), whole(6)}},
		{[]api.Cake{steps(1, 3), steps(3, 1)}, []int{0, 1}, r(1, 4), []api.Ratio{whole(1), whole(2)}},
		{[]api.Cake{steps(1, 3), steps(3, 1)}, []int{1, 0}, r(3, 4), []api.Ratio{whole(1), whole(2)}},
		// An end passes a cut of its own cake, of the next one's, or of both.
		{[]api.Cake{steps(1, 3), flat(2, 1)}, []int{0, 1}, r(2, 5), []api.Ratio{r(6, 5), whole(2)}},
		{[]api.Cake{steps(1, 3), flat(2, 1)}, []int{1, 0}, r(3, 5), []api.Ratio{r(6, 5), whole(2)}},
		{[]api.Cake{steps(3, 1, 1), steps(3, 1, 1)}, []int{0, 1}, r(1, 2), []api.Ratio{r(5, 6), whole(3)}},
		{[]api.Cake{steps(1, 2, 1), steps(1, 2, 1)}, []int{1, 0}, r(1, 2), []api.Ratio{r(3, 2), whole(3)}},
		// three, of whom the one in the middle counts otherwise
		{[]api.Cake{even, early(), even}, []int{0, 1, 2}, r(2, 7), []api.Ratio{r(12, 7), r(30, 7), whole(6)}},
		{[]api.Cake{even, early(), even}, []int{2, 1, 0}, r(2, 7), []api.Ratio{r(12, 7), r(30, 7), whole(6)}},
		{[]api.Cake{even, early(), even}, []int{0, 2, 1}, r(1, 4), []api.Ratio{r(3, 2), whole(3), whole(6)}},
		{[]api.Cake{even, early(), even}, []int{1, 2, 0}, r(2, 5), []api.Ratio{r(6, 5), r(18, 5), whole(6)}},
		// as many as there may be, each of whom wants one part most
		{wanting(0, 1, 2, 3), []int{0, 1, 2, 3}, r(4, 5), []api.Ratio{whole(1), whole(2), whole(3), whole(4)}},
		{wanting(0, 1, 2, 3), []int{3, 2, 1, 0}, r(1, 15), []api.Ratio{whole(1), whole(2), whole(3), whole(4)}},
		{wanting(2, 0, 3, 1), []int{1, 3, 0, 2}, r(4, 5), []api.Ratio{whole(1), whole(2), whole(3), whole(4)}},
		{[]api.Cake{flat(api.MaxLen, api.MaxDens), flat(api.MaxLen, 1)}, []int{1, 0}, r(1, 2), []api.Ratio{whole(500), whole(1000)}},
	}
	for n := range api.MaxEqual {
		for _, order := range permutations(n + 1) {
			c := divided{alike(n + 1), order, r(1, int64(n+1)), nil}
			for i := range order {
				c.ends = append(c.ends, whole(int64(i+1)))
			}
			all = append(all, c)
		}
	}
	return all
}

// P12.2: parts and divisions that are easily seen.
func TestPartAndDivide(t *testing.T) {
	for _, c := range cases() {
		if q, e := equal.Part(c.l, c.order); q != c.q || e != api.OK {
			t.Errorf("Part(%v, %v) = %v, %v; want %v", c.l, c.order, q, e, c.q)
		}
		if d, e := equal.Divide(c.l, c.order); !sameDivision(d, c.division()) || e != api.OK {
			t.Errorf("Divide(%v, %v) = %v, %v; want %v", c.l, c.order, d, e, c.division())
		}
	}
}

// P12.1: ends for the parts of the orders, and for lesser parts, also for 0 and for such that hardly have a ratio.
func TestEnds(t *testing.T) {
	all := cases()
	for _, c := range cases() {
		all = append(all, divided{c.l, c.order, r(0, 1), slices.Repeat([]api.Ratio{r(0, 1)}, len(c.l))})
	}
	all = append(all,
		divided{example(), []int{0, 1}, r(1, 5), []api.Ratio{r(4, 5), r(8, 5)}},
		divided{example(), []int{1, 0}, r(1, 2), []api.Ratio{r(1, 1), r(3, 1)}},
		divided{example(), []int{1, 0}, r(1, 4), []api.Ratio{r(1, 2), r(3, 2)}},
		divided{[]api.Cake{flat(6, 1), early(), flat(6, 1)}, []int{1, 0, 2}, r(1, 3), []api.Ratio{r(1, 1), r(3, 1), r(5, 1)}},
		divided{[]api.Cake{flat(5, 3)}, []int{0}, r(2, 5), []api.Ratio{r(2, 1)}},
		divided{slices.Repeat([]api.Cake{flat(1, 1)}, 4), []int{2, 0, 3, 1}, r(1, top), []api.Ratio{r(1, top), r(1, top/2), r(3, top), r(1, top/4)}},
		divided{[]api.Cake{flat(1, 1)}, []int{0}, r(top-1, top), []api.Ratio{r(top-1, top)}},
		divided{[]api.Cake{flat(3, 1)}, []int{0}, r(1, top), []api.Ratio{r(3, top)}},
	)
	for _, c := range all {
		if ends, e := equal.Ends(c.l, c.order, c.q); !slices.Equal(ends, c.ends) || e != api.OK {
			t.Errorf("Ends(%v, %v, %v) = %v, %v; want %v", c.l, c.order, c.q, ends, e, c.ends)
		}
	}
}

// checkEnds reports ends that do not have an error, or anything beside it.
func checkEnds(t *testing.T, l []api.Cake, order []int, q api.Ratio, want api.Errno) {
	t.Helper()
	if ends, e := equal.Ends(l, order, q); len(ends) != 0 || e != want {
		t.Errorf("Ends(%v, %v, %v) = %v, %v; want %v", l, order, q, ends, e, want)
	}
}

// P12.1: what is no part is ErrArg, however the cakes are.
func TestEndsOfNoPart(t *testing.T) {
	for _, c := range cases() {
		for _, q := range noParts() {
			checkEnds(t, c.l, c.order, q, api.ErrArg)
		}
	}
}

// P12.1: the first error of a product, or of a mark, end by end.
func TestEndsErrors(t *testing.T) {
	none, out := api.ErrNone, api.ErrRange
	one, two, three := flat(1, 1), flat(1, 2), flat(1, 3)
	for _, c := range []struct {
		l     []api.Cake
		order []int
		q     api.Ratio
		e     api.Errno
	}{
		// the chapter's example
		{example(), []int{0, 1}, r(1, 2), none},
		{example(), []int{1, 0}, r(2, 3), none},
		// From the end of the cake on there is nothing.
		{example(), []int{0, 1}, r(1, 1), none},
		{example(), []int{1, 0}, r(1, 1), none},
		{[]api.Cake{one}, []int{0}, r(2, 1), none},
		{[]api.Cake{one}, []int{0}, r(1000001, 1000000), none},
		{[]api.Cake{one}, []int{0}, r(top, 1), none},
		{slices.Repeat([]api.Cake{early()}, 3), []int{1, 2, 0}, r(167, 500), none},
		{slices.Repeat([]api.Cake{early()}, 3), []int{1, 2, 0}, r(10001, 30000), none},
		// the product of the first one, or of the second one
		{[]api.Cake{two}, []int{0}, r(top, 1), out},
		{[]api.Cake{three}, []int{0}, r(top-1, top), out},
		{[]api.Cake{one, three}, []int{0, 1}, r(top-1, top), out},
		{[]api.Cake{one, three}, []int{1, 0}, r(top-1, top), out},
		// the way from the first end to the end of the cake
		{[]api.Cake{flat(3, 1), flat(3, 1)}, []int{0, 1}, r(1, top), out},
		// what comes first: the mark of one, or the product of the other one
		{[]api.Cake{one, two}, []int{0, 1}, r(top, top-1), none},
		{[]api.Cake{one, two}, []int{1, 0}, r(top, top-1), out},
		{[]api.Cake{one, two}, []int{0, 1}, r(top, 1), none},
		{[]api.Cake{one, two}, []int{1, 0}, r(top, 1), out},
	} {
		checkEnds(t, c.l, c.order, c.q, c.e)
	}
}

// checkOrdered reports a function with an order that does not have an error, or anything beside it.
func checkOrdered(t *testing.T, l []api.Cake, order []int, want api.Errno) {
	t.Helper()
	for _, q := range append(noParts()[:3], r(0, 1), r(1, 9), r(top, 1)) {
		checkEnds(t, l, order, q, want)
	}
	if q, e := equal.Part(l, order); q != (api.Ratio{}) || e != want {
		t.Errorf("Part(%v, %v) = %v, %v; want %v", l, order, q, e, want)
	}
	if d, e := equal.Divide(l, order); len(d.Pieces) != 0 || e != want {
		t.Errorf("Divide(%v, %v) = %v, %v; want %v", l, order, d, e, want)
	}
}

// P12.1 to P12.3: the error of the desk comes first, then ErrMany for too many, and then ErrArg unless all are hungry, ahead of any error of the order and the part.
func TestBadCakes(t *testing.T) {
	for _, f := range append(badDesks(), badLists()...) {
		var order []int
		for agent := range f.l {
			order = append(order, agent)
		}
		for _, o := range [][]int{order, nil, {0}, {0, 0}, {-1, 7}} {
			checkOrdered(t, f.l, o, f.e)
		}
		if order, q, e := equal.Best(f.l); len(order) != 0 || q != (api.Ratio{}) || e != f.e {
			t.Errorf("Best(%v) = %v, %v, %v; want %v", f.l, order, q, e, f.e)
		}
	}
}

// P12.1, P12.2: what is no order is ErrBad, ahead of the error of the part.
func TestNoOrders(t *testing.T) {
	for n := range api.MaxEqual {
		for _, order := range noOrders(n + 1) {
			checkOrdered(t, alike(n+1), order, api.ErrBad)
		}
	}
}

// P12.3: best orders that are easily seen; of several with the same part the first one in the order of lists.
func TestBest(t *testing.T) {
	even := flat(6, 1)
	for _, c := range []struct {
		l     []api.Cake
		order []int
		q     api.Ratio
	}{
		{example(), []int{1, 0}, r(3, 5)},
		{[]api.Cake{flat(5, 3)}, []int{0}, r(1, 1)},
		{[]api.Cake{even, early()}, []int{1, 0}, r(2, 3)},
		{[]api.Cake{early(), even}, []int{0, 1}, r(2, 3)},
		{[]api.Cake{even, early(), even}, []int{1, 0, 2}, r(2, 5)},
		{[]api.Cake{even, even, early()}, []int{2, 0, 1}, r(2, 5)},
		{alike(2), []int{0, 1}, r(1, 2)},
		{alike(3), []int{0, 1, 2}, r(1, 3)},
		{alike(4), []int{0, 1, 2, 3}, r(1, 4)},
		{wanting(0, 1, 2, 3), []int{0, 1, 2, 3}, r(4, 5)},
		{wanting(3, 2, 1, 0), []int{3, 2, 1, 0}, r(4, 5)},
		{wanting(2, 0, 3, 1), []int{1, 3, 0, 2}, r(4, 5)},
		{wanting(1, 2, 0), []int{2, 0, 1}, r(6, 7)},
	} {
		if order, q, e := equal.Best(c.l); !slices.Equal(order, c.order) || q != c.q || e != api.OK {
			t.Errorf("Best(%v) = %v, %v, %v; want %v, %v", c.l, order, q, e, c.order, c.q)
		}
	}
	for _, order := range permutations(4) {
		place := make([]int, 4)
		for i, agent := range order {
			place[agent] = i
		}
		if got, q, e := equal.Best(wanting(place...)); !slices.Equal(got, order) || q != r(4, 5) || e != api.OK {
			t.Errorf("Best(%v) = %v, %v, %v; want %v", wanting(place...), got, q, e, order)
		}
	}
}
