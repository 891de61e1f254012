package triple_test

import (
	"slices"
	"testing"

	"parcener/api"
	"parcener/cake"
	"parcener/triple"
)

// roomyList returns a copy of a list that has memory behind its end, and a check whether all of that memory is as it was.
func roomyList[T any](l []T, filler T, same func(a, b T) bool) (list []T, kept func() bool) {
	memory := append(slices.Clone(l), filler, filler, filler)
	before := slices.Clone(memory)
	return memory[:len(l)], func() bool { return slices.EqualFunc(memory, before, same) }
}

// equal reports whether two values are equal.
func equal[T comparable](a, b T) bool { return a == b }

// roomy returns a copy of a desk, all lists of which have memory behind their ends, and a check whether all of that memory is as it was.
func roomy(d api.Desk) (api.Desk, func() bool) {
	var checks []func() bool
	var cakes []api.Cake
	for _, c := range d.Cakes {
		cuts, keptCuts := roomyList(c.Cuts, 91, equal[int])
		dens, keptDens := roomyList(c.Dens, 92, equal[int])
		cakes = append(cakes, api.Cake{Len: c.Len, Cuts: cuts, Dens: dens})
		checks = append(checks, keptCuts, keptDens)
	}
	var other api.Desk
	var keptCakes, keptLog func() bool
	other.Cakes, keptCakes = roomyList(cakes, api.Cake{Len: 93}, cake.Same)
	other.Log, keptLog = roomyList(d.Log, api.Query{Agent: 94}, equal[api.Query])
	checks = append(checks, keptCakes, keptLog)
	return other, func() bool { return !slices.ContainsFunc(checks, func(kept func() bool) bool { return !kept() }) }
}

// fill writes over all the memory of a list, also behind its end.
func fill[T any](l []T, x T) {
	l = l[:cap(l)]
	for i := range l {
		l[i] = x
	}
}

// rightDesks returns desks that have a first part, with and without a log, also with cakes that share their memory.
func rightDesks() []api.Desk {
	var l []api.Desk
	for _, c := range samples() {
		l = append(l, api.Desk{Cakes: c.l}, api.Desk{Cakes: c.l, Log: filled(9)})
	}
	k := steps(2, 1, 2)
	return append(l, api.Desk{Cakes: []api.Cake{k, k, k}, Log: filled(3)}, api.Desk{Cakes: []api.Cake{k, flat(3, 1), k}})
}

// R2: no call changes its arguments, also behind their ends, and also if it has an error.
func TestOnlyRead(t *testing.T) {
	all := append(rightDesks(), api.Desk{Cakes: example(), Log: filled(api.MaxQuery - 7)})
	for _, f := range badDesks() {
		all = append(all, f.d)
	}
	for _, start := range all {
		d, kept := roomy(start)
		triple.First(d)
		triple.Run(d.Cakes)
		if !kept() || !sameDesk(d, start) {
			t.Errorf("the arguments of %v were changed", start)
		}
	}
}

// lists returns functions that write over all the memory of one list of a desk each.
func lists(d api.Desk) []func() {
	l := []func(){
		func() { fill(d.Log, api.Query{Agent: -7}) },
		func() { fill(d.Cakes, api.Cake{Len: -7}) },
	}
	for _, c := range d.Cakes {
		l = append(l, func() { fill(c.Cuts, -7) }, func() { fill(c.Dens, -7) })
	}
	return l
}

// changed counts the lists, but that of the cakes, in which a desk differs from what it was, going by its cakes as they were listed then.
func changed(d api.Desk, cakes []api.Cake, was api.Desk) int {
	count := 0
	if !slices.Equal(d.Log, was.Log) {
		count++
	}
	for i, c := range cakes {
		if !slices.Equal(c.Cuts, was.Cakes[i].Cuts) {
			count++
		}
		if !slices.Equal(c.Dens, was.Cakes[i].Dens) {
			count++
		}
	}
	return count
}

// R2: the desk after a first part shares no memory with the arguments, with that of another call, nor within itself.
func TestOwnMemoryOfDesks(t *testing.T) {
	for _, start := range rightDesks() {
		for i := range lists(start) {
			d, kept := roomy(start)
			got, _, e := triple.First(d)
			again, _, f := triple.First(d)
			if e != api.OK || f != api.OK {
				t.Fatal(e, f)
			}
			was, _ := roomy(got)
			cakes := slices.Clone(got.Cakes)
			lists(got)[i]()
			if !kept() || !sameDesk(again, was) {
				t.Fatalf("%v: a desk shares memory with the arguments, or with another call", start)
			}
			if changed(got, cakes, was) > 1 {
				t.Fatalf("%v: lists of a desk share memory", start)
			}
		}
	}
}

// R2: the pieces and logs of runs share no memory with each other, nor with those of other calls.
func TestOwnMemoryOfRuns(t *testing.T) {
	for _, c := range samples() {
		want := api.Division{Pieces: c.pieces}
		d, _, log, _ := triple.Run(c.l)
		again, _, other, _ := triple.Run(c.l)
		fill(log, api.Query{Agent: -7})
		for k := range d.Pieces {
			fill(d.Pieces[k], span(r(7, 1), r(8, 1)))
			if !sameDivision(api.Division{Pieces: d.Pieces[k+1:]}, api.Division{Pieces: want.Pieces[k+1:]}) {
				t.Errorf("%v: the pieces share memory", c.l)
			}
		}
		fill(d.Pieces, nil)
		if !sameDivision(again, want) || !slices.Equal(other, slices.Concat(c.first, c.second)) {
			t.Errorf("%v: two runs share memory", c.l)
		}
	}
}

// R2: nothing is kept: each call has the same results again, also after others.
func TestNothingIsKept(t *testing.T) {
	all := samples()
	for range 2 {
		for _, c := range all {
			d := api.Desk{Cakes: c.l}
			if next, s, e := triple.First(d); !slices.Equal(next.Log, c.first) || s != c.s || e != api.OK || len(d.Log) != 0 {
				t.Errorf("First(%v) = %v, %v, %v", c.l, next, s, e)
			}
			if d, s, log, e := triple.Run(c.l); !sameDivision(d, api.Division{Pieces: c.pieces}) || s != c.s || len(log) != len(c.first)+len(c.second) || e != api.OK {
				t.Errorf("Run(%v) = %v, %v, %v, %v", c.l, d, s, log, e)
			}
			triple.Run(nil)
			triple.First(api.Desk{Cakes: c.l, Log: filled(api.MaxQuery)})
		}
		slices.Reverse(all)
	}
}

// R3: nil and empty lists are the same.
func TestEmptyIsNil(t *testing.T) {
	want := chapter()
	for _, log := range [][]api.Query{nil, {}} {
		d := api.Desk{Cakes: example(), Log: log}
		if next, s, e := triple.First(d); !sameDesk(next, api.Desk{Cakes: d.Cakes, Log: want.first}) || s != want.s || e != api.OK {
			t.Errorf("First = %v, %v, %v", next, s, e)
		}
		checkError(t, api.Desk{Log: log}, api.ErrBad)
		checkError(t, api.Desk{Cakes: []api.Cake{}, Log: log}, api.ErrBad)
	}
	for _, l := range [][]api.Cake{nil, {}} {
		if _, _, _, e := triple.Run(l); e != api.ErrBad {
			t.Errorf("Run without cakes = %v", e)
		}
	}
}
