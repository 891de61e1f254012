package choose_test

import (
	"slices"
	"testing"

	"parcener/api"
	"parcener/cake"
	"parcener/choose"
)

// roomyList returns a copy of a list that has memory behind its end, and a check whether all of that memory is as it was.
func roomyList[T any](l []T, filler T, same func(a, b T) bool) (list []T, kept func() bool) {
	memory := append(slices.Clone(l), filler, filler, filler)
	before := slices.Clone(memory)
	return memory[:len(l)], func() bool { return slices.EqualFunc(memory, before, same) }
}

// equal reports whether two values are equal.
func equal[T comparable](a, b T) bool { return a == b }

// roomy returns a copy of a state, all lists of which have memory behind their ends, and a check whether all of that memory is as it was.
func roomy(s api.Choice) (api.Choice, func() bool) {
	var checks []func() bool
	var cakes []api.Cake
	for _, c := range s.Desk.Cakes {
		cuts, keptCuts := roomyList(c.Cuts, 91, equal[int])
		dens, keptDens := roomyList(c.Dens, 92, equal[int])
		cakes = append(cakes, api.Cake{Len: c.Len, Cuts: cuts, Dens: dens})
		checks = append(checks, keptCuts, keptDens)
	}
	other := s
	var keptCakes, keptLog func() bool
	other.Desk.Cakes, keptCakes = roomyList(cakes, api.Cake{Len: 93}, cake.Same)
	other.Desk.Log, keptLog = roomyList(s.Desk.Log, api.Query{Agent: 94}, equal[api.Query])
	checks = append(checks, keptCakes, keptLog)
	return other, func() bool { return !slices.ContainsFunc(checks, func(kept func() bool) bool { return !kept() }) }
}

// fill writes over all the memory of a list, also behind its end.
func fill[T any](l []T, x T) {
	l = l[:cap(l)]
	for i := range l {
		l[i] = x
	}
}

// validStates returns the states of some parties, also of one whose cakes share their memory.
func validStates() []api.Choice {
	var l []api.Choice
	for _, c := range endings() {
		l = append(l, c.wanted()...)
	}
	c := steps(2, 2)
	return append(l, ended{party{[]api.Cake{c, c}, 1}, r(2, 1), r(1, 1), r(2, 1), true}.wanted()...)
}

// R2: no call changes its arguments, also behind their ends, and also if it has an error.
func TestOnlyRead(t *testing.T) {
	all := validStates()
	for _, s := range validStates()[:9] {
		all = append(all, falseStates(s)...)
	}
	for _, f := range flaws() {
		all = append(all, api.Choice{Desk: api.Desk{Cakes: f.l}, Cutter: f.cutter})
	}
	for _, start := range all {
		s, kept := roomy(start)
		choose.Start(s.Desk.Cakes, s.Cutter)
		choose.Check(s)
		choose.Next(s)
		choose.Division(s)
		choose.Run(s.Desk.Cakes, s.Cutter)
		if !kept() || !same(s, start) {
			t.Errorf("the arguments of %v were changed", start)
		}
	}
}

// stateCalls are the calls that return a state.
func stateCalls() []func(s api.Choice) api.Choice {
	return []func(s api.Choice) api.Choice{
		func(s api.Choice) api.Choice { next, _ := choose.Start(s.Desk.Cakes, s.Cutter); return next },
		func(s api.Choice) api.Choice { next, _ := choose.Next(s); return next },
	}
}

// lists returns functions that write over all the memory of one list of a state each.
func lists(s api.Choice) []func() {
	l := []func(){
		func() { fill(s.Desk.Log, api.Query{Agent: -7}) },
		func() { fill(s.Desk.Cakes, api.Cake{Len: -7}) },
	}
	for _, c := range s.Desk.Cakes {
		l = append(l, func() { fill(c.Cuts, -7) }, func() { fill(c.Dens, -7) })
	}
	return l
}

// changed counts the lists of a state that are not as in another one, of those that its cakes had.
func changed(s, want api.Choice, cakes []api.Cake) int {
	count := 0
	if !slices.Equal(s.Desk.Log, want.Desk.Log) {
		count++
	}
	for i, c := range cakes {
		if s.Desk.Cakes[i].Len != want.Desk.Cakes[i].Len {
			count++
		}
		if !slices.Equal(c.Cuts, want.Desk.Cakes[i].Cuts) {
			count++
		}
		if !slices.Equal(c.Dens, want.Desk.Cakes[i].Dens) {
			count++
		}
	}
	return count
}

// R2: states share no memory with arguments, with those of other calls, nor within themselves.
func TestOwnMemoryOfStates(t *testing.T) {
	for _, start := range validStates() {
		for _, call := range stateCalls() {
			for i := range lists(call(start)) {
				s, kept := roomy(start)
				got, again := call(s), call(s)
				want, _ := roomy(got)
				cakes := slices.Clone(got.Desk.Cakes)
				lists(got)[i]()
				if !kept() || !same(again, want) {
					t.Fatalf("%v: a state shares memory with the arguments, or with that of another call", start)
				}
				// All of the list of cakes is one list, with two elements.
				if n := changed(got, want, cakes); n > 1 && (i != 1 || n > 2) {
					t.Fatalf("%v: lists of one state share memory", start)
				}
			}
		}
	}
}

// R2: divisions and logs share no memory with arguments, with those of other calls, nor with each other.
func TestOwnMemoryOfDivisions(t *testing.T) {
	for _, c := range endings() {
		s, kept := roomy(c.wanted()[2])
		want := divided(c.l[0].Len, c.at, c.first())
		one, e := choose.Division(s)
		two, log, f := choose.Run(s.Desk.Cakes, s.Cutter)
		three, otherLog, g := choose.Run(s.Desk.Cakes, s.Cutter)
		if e != api.OK || f != api.OK || g != api.OK {
			t.Fatal(e, f, g)
		}
		fill(log, api.Query{Agent: -7})
		for _, d := range []api.Division{one, two} {
			fill(d.Pieces[0], api.Span{From: r(7, 1)})
			if !slices.Equal(d.Pieces[1], want.Pieces[1]) {
				t.Errorf("%v: the pieces share memory", c.party)
			}
			fill(d.Pieces, nil)
		}
		if !kept() || !sameDivision(three, want) || !slices.Equal(otherLog, c.wanted()[2].Desk.Log) {
			t.Errorf("%v: a division shares memory with the arguments, or with that of another call", c.party)
		}
	}
}

// R2: nothing is kept: a state goes on in the same way each time, and stays as it is.
func TestNothingIsKept(t *testing.T) {
	all := endings()
	for range 2 {
		for _, c := range all {
			want := c.wanted()
			states := c.states(t)
			for step, s := range want[:2] {
				if next, e := choose.Next(states[step]); !same(next, want[step+1]) || !same(states[step], s) || e != api.OK {
					t.Errorf("Next(%v) = %v, %v", states[step], next, e)
				}
			}
		}
		slices.Reverse(all)
	}
}

// R3: nil and empty lists are the same.
func TestEmptyIsNil(t *testing.T) {
	for _, log := range [][]api.Query{nil, {}} {
		s := api.Choice{Desk: api.Desk{Cakes: example(), Log: log}, At: r(0, 1)}
		if e := choose.Check(s); e != api.OK {
			t.Errorf("Check(%v) = %v", s, e)
		}
		if next, e := choose.Next(s); next.At != r(1, 1) || e != api.OK {
			t.Errorf("Next(%v) = %v, %v", s, next, e)
		}
	}
	for _, l := range [][]api.Cake{nil, {}} {
		if _, e := choose.Start(l, 0); e != api.ErrBad {
			t.Errorf("Start without cakes = %v", e)
		}
	}
}
