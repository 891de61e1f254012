package equal_test

import (
	"slices"
	"testing"

	"parcener/api"
	"parcener/cake"
	"parcener/equal"
)

// roomyList returns a copy of a list that has memory behind its end, and a check whether all of that memory is as it was.
func roomyList[T any](l []T, filler T, same func(a, b T) bool) (list []T, kept func() bool) {
	memory := append(slices.Clone(l), filler, filler, filler)
	before := slices.Clone(memory)
	return memory[:len(l)], func() bool { return slices.EqualFunc(memory, before, same) }
}

// sameNumber reports whether two numbers are equal.
func sameNumber(a, b int) bool { return a == b }

// roomy returns a copy of some cakes, all lists of which have memory behind their ends, and a check whether all of that memory is as it was.
func roomy(l []api.Cake) ([]api.Cake, func() bool) {
	var checks []func() bool
	var cakes []api.Cake
	for _, c := range l {
		cuts, keptCuts := roomyList(c.Cuts, 91, sameNumber)
		dens, keptDens := roomyList(c.Dens, 92, sameNumber)
		cakes = append(cakes, api.Cake{Len: c.Len, Cuts: cuts, Dens: dens})
		checks = append(checks, keptCuts, keptDens)
	}
	cakes, kept := roomyList(cakes, api.Cake{Len: 93}, cake.Same)
	checks = append(checks, kept)
	return cakes, func() bool { return !slices.ContainsFunc(checks, func(kept func() bool) bool { return !kept() }) }
}

// fill writes over all the memory of a list, also behind its end.
func fill[T any](l []T, x T) {
	l = l[:cap(l)]
	for i := range l {
		l[i] = x
	}
}

// R2: no call changes its arguments, also behind their ends, and also if it has an error.
func TestOnlyRead(t *testing.T) {
	var all []ordered
	for _, c := range cases() {
		all = append(all, ordered{c.l, c.order})
	}
	for _, f := range append(badDesks(), badLists()...) {
		all = append(all, ordered{f.l, []int{1, 0}})
	}
	for _, order := range noOrders(2) {
		all = append(all, ordered{alike(2), order})
	}
	all = append(all, ordered{longest(), []int{2, 0, 3, 1}})
	for _, start := range all {
		l, kept := roomy(start.l)
		order, keptOrder := roomyList(start.order, 94, sameNumber)
		for _, q := range append(noParts(), r(0, 1), r(1, 10), r(1, top), r(2, 1)) {
			equal.Ends(l, order, q)
		}
		equal.Part(l, order)
		equal.Divide(l, order)
		equal.Best(l)
		if !kept() || !keptOrder() || !slices.EqualFunc(l, start.l, cake.Same) {
			t.Errorf("the arguments %v were changed", start)
		}
	}
}

// R2: pieces, ends and best orders share no memory with arguments, with each other, nor with those of other calls.
func TestOwnMemory(t *testing.T) {
	for _, c := range cases() {
		want := c.division()
		order := slices.Clone(c.order)
		d, _ := equal.Divide(c.l, order)
		again, _ := equal.Divide(c.l, order)
		for k := range d.Pieces {
			if !sameDivision(api.Division{Pieces: d.Pieces[k:]}, api.Division{Pieces: want.Pieces[k:]}) {
				t.Errorf("%v: the pieces share memory", c)
			}
			fill(d.Pieces[k], span(r(7, 1), r(8, 1)))
		}
		fill(d.Pieces, nil)
		ends, _ := equal.Ends(c.l, order, c.q)
		others, _ := equal.Ends(c.l, order, c.q)
		fill(ends, r(7, 1))
		best, _, _ := equal.Best(c.l)
		same, _, _ := equal.Best(c.l)
		before := slices.Clone(same)
		fill(best, -7)
		if !sameDivision(again, want) || !slices.Equal(others, c.ends) || !slices.Equal(same, before) || !slices.Equal(order, c.order) {
			t.Errorf("%v: two calls share memory", c)
		}
	}
}

// R2: nothing is kept: each call has the same results again, also after others.
func TestNothingIsKept(t *testing.T) {
	all := cases()
	for range 2 {
		for _, c := range all {
			if q, e := equal.Part(c.l, c.order); q != c.q || e != api.OK {
				t.Errorf("Part(%v, %v) = %v, %v", c.l, c.order, q, e)
			}
			if ends, e := equal.Ends(c.l, c.order, c.q); !slices.Equal(ends, c.ends) || e != api.OK {
				t.Errorf("Ends(%v, %v, %v) = %v, %v", c.l, c.order, c.q, ends, e)
			}
			if d, e := equal.Divide(c.l, c.order); !sameDivision(d, c.division()) || e != api.OK {
				t.Errorf("Divide(%v, %v) = %v, %v", c.l, c.order, d, e)
			}
			equal.Best(c.l)
			equal.Ends(c.l, c.order, r(2, 1))
			equal.Part(nil, nil)
		}
		slices.Reverse(all)
	}
}

// R3: nil and empty lists are the same.
func TestEmptyIsNil(t *testing.T) {
	for _, none := range [][]api.Cake{nil, {}} {
		for _, order := range [][]int{nil, {}} {
			checkOrdered(t, none, order, api.ErrBad)
			checkOrdered(t, alike(1), order, api.ErrBad)
			checkOrdered(t, alike(3), order, api.ErrBad)
		}
		if order, q, e := equal.Best(none); len(order) != 0 || q != (api.Ratio{}) || e != api.ErrBad {
			t.Errorf("Best without cakes = %v, %v, %v", order, q, e)
		}
	}
}
