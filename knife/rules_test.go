package knife_test

import (
	"slices"
	"testing"

	"parcener/api"
	"parcener/cake"
	"parcener/knife"
)

// roomyList returns a copy of a list that has memory behind its end, and a check whether all of that memory is as it was.
func roomyList[T any](l []T, filler T, same func(a, b T) bool) (list []T, kept func() bool) {
	memory := append(slices.Clone(l), filler, filler, filler)
	before := slices.Clone(memory)
	return memory[:len(l)], func() bool { return slices.EqualFunc(memory, before, same) }
}

// equal reports whether two values are equal.
func equal[T comparable](a, b T) bool { return a == b }

// roomy returns a copy of some cakes, all lists of which have memory behind their ends, and a check whether all of that memory is as it was.
func roomy(l []api.Cake) ([]api.Cake, func() bool) {
	var checks []func() bool
	var cakes []api.Cake
	for _, c := range l {
		cuts, keptCuts := roomyList(c.Cuts, 91, equal[int])
		dens, keptDens := roomyList(c.Dens, 92, equal[int])
		cakes = append(cakes, api.Cake{Len: c.Len, Cuts: cuts, Dens: dens})
		checks = append(checks, keptCuts, keptDens)
	}
	cakes, kept := roomyList(cakes, api.Cake{Len: 93}, cake.Same)
	checks = append(checks, kept)
	return cakes, func() bool { return !slices.ContainsFunc(checks, func(kept func() bool) bool { return !kept() }) }
}

// fill writes over all the memory of a list, also behind its end.
func fill[T any](l []T, x T) {
	l = l[:cap(l)]
	for i := range l {
		l[i] = x
	}
}

// R2: no call changes its arguments, also behind their ends, and also if it has an error.
func TestOnlyRead(t *testing.T) {
	k := steps(2, 1, 2)
	all := [][]api.Cake{{k, k}, {steps(1, 0, 1), k}, {k, steps(0, 3, 0)}, {flat(2, 1), flat(2, 3), flat(2, 2)}}
	for _, c := range runs() {
		all = append(all, c.l)
	}
	for _, c := range halves() {
		all = append(all, []api.Cake{c.a, c.b})
	}
	for _, f := range badDesks() {
		all = append(all, f.l)
	}
	for _, start := range all {
		l, kept := roomy(start)
		knife.Spans(l)
		for i := range len(l) - 1 {
			knife.Half(l[i], l[i+1])
			for _, from := range append(noPoints(2), r(0, 1), r(1, 2), r(1, top)) {
				knife.Other(l[i], from)
				knife.Gap(l[i], l[i+1], from)
			}
		}
		if !kept() || !slices.EqualFunc(l, start, cake.Same) {
			t.Errorf("the arguments of %v were changed", start)
		}
	}
}

// R2: the pieces, orders and logs share no memory with each other, nor with those of other calls.
func TestOwnMemory(t *testing.T) {
	for _, c := range runs() {
		want := c.division()
		d, order, log, _ := knife.Spans(c.l)
		again, otherOrder, otherLog, _ := knife.Spans(c.l)
		fill(order, -7)
		fill(log, api.Query{Agent: -7})
		for k := range d.Pieces {
			if !sameDivision(api.Division{Pieces: d.Pieces[k:]}, api.Division{Pieces: want.Pieces[k:]}) {
				t.Errorf("%v: the pieces share memory", c.l)
			}
			fill(d.Pieces[k], span(r(7, 1), r(8, 1)))
		}
		fill(d.Pieces, nil)
		if !sameDivision(again, want) || !slices.Equal(otherOrder, c.order) || !slices.Equal(otherLog, c.log) {
			t.Errorf("%v: two calls share memory", c.l)
		}
	}
}

// R2: nothing is kept: each call has the same results again, also after others.
func TestNothingIsKept(t *testing.T) {
	all, both := runs(), halves()
	for range 2 {
		for _, c := range all {
			if d, order, log, e := knife.Spans(c.l); !sameDivision(d, c.division()) || !slices.Equal(order, c.order) || !slices.Equal(log, c.log) || e != api.OK {
				t.Errorf("Spans(%v) = %v, %v, %v, %v", c.l, d, order, log, e)
			}
			knife.Spans(nil)
		}
		for _, c := range both {
			if s, e := knife.Half(c.a, c.b); s != c.want || e != api.OK {
				t.Errorf("Half(%v, %v) = %v, %v", c.a, c.b, s, e)
			}
			if to, e := knife.Other(c.a, c.want.From); to != c.want.To || e != api.OK {
				t.Errorf("Other(%v, %v) = %v, %v", c.a, c.want.From, to, e)
			}
			if gap, e := knife.Gap(c.a, c.b, c.want.From); gap != r(0, 1) || e != api.OK {
				t.Errorf("Gap(%v, %v, %v) = %v, %v", c.a, c.b, c.want.From, gap, e)
			}
			knife.Half(c.a, api.Cake{})
			knife.Other(api.Cake{}, r(1, 1))
			knife.Gap(c.a, c.b, api.Ratio{})
		}
		slices.Reverse(all)
		slices.Reverse(both)
	}
}

// R3: nil and empty lists are the same.
func TestEmptyIsNil(t *testing.T) {
	for _, l := range [][]api.Cake{nil, {}} {
		if _, _, _, e := knife.Spans(l); e != api.ErrBad {
			t.Errorf("Spans without cakes = %v", e)
		}
	}
	for _, c := range []api.Cake{{Len: 2}, {Len: 2, Cuts: []int{}, Dens: []int{}}} {
		if _, e := knife.Half(c, flat(2, 1)); e != api.ErrBad {
			t.Errorf("Half = %v", e)
		}
		if _, e := knife.Gap(flat(2, 1), c, r(0, 1)); e != api.ErrBad {
			t.Errorf("Gap = %v", e)
		}
		if _, e := knife.Other(c, r(0, 1)); e != api.ErrBad {
			t.Errorf("Other = %v", e)
		}
	}
}
