package trim_test

import (
	"slices"
	"testing"

	"parcener/api"
	"parcener/cake"
	"parcener/trim"
)

// roomyList returns a copy of a list that has memory behind its end, and a check whether all of that memory is as it was.
func roomyList[T any](l []T, filler T, same func(a, b T) bool) (list []T, kept func() bool) {
	memory := append(slices.Clone(l), filler, filler, filler)
	before := slices.Clone(memory)
	return memory[:len(l)], func() bool { return slices.EqualFunc(memory, before, same) }
}

// equal reports whether two values are equal.
func equal[T comparable](a, b T) bool { return a == b }

// roomy returns a copy of a task, all lists of which have memory behind their ends, and a check whether all of that memory is as it was.
func roomy(c task) (task, func() bool) {
	var checks []func() bool
	var cakes []api.Cake
	for _, k := range c.d.Cakes {
		cuts, keptCuts := roomyList(k.Cuts, 91, equal[int])
		dens, keptDens := roomyList(k.Dens, 92, equal[int])
		cakes = append(cakes, api.Cake{Len: k.Len, Cuts: cuts, Dens: dens})
		checks = append(checks, keptCuts, keptDens)
	}
	other := task{from: c.from}
	var keptCakes, keptLog, keptAgents func() bool
	other.d.Cakes, keptCakes = roomyList(cakes, api.Cake{Len: 93}, cake.Same)
	other.d.Log, keptLog = roomyList(c.d.Log, api.Query{Agent: 94}, equal[api.Query])
	other.agents, keptAgents = roomyList(c.agents, 95, equal[int])
	checks = append(checks, keptCakes, keptLog, keptAgents)
	return other, func() bool { return !slices.ContainsFunc(checks, func(kept func() bool) bool { return !kept() }) }
}

// fill writes over all the memory of a list, also behind its end.
func fill[T any](l []T, x T) {
	l = l[:cap(l)]
	for i := range l {
		l[i] = x
	}
}

// rightTasks returns rounds that can be played, also with no query, with a log, and with cakes that share their memory.
func rightTasks() []task {
	var l []task
	for _, c := range slices.Concat(examples(), edges()) {
		l = append(l, task{api.Desk{Cakes: c.l}, c.agents, c.from}, task{api.Desk{Cakes: c.l, Log: filled(9)}, c.agents, c.from})
	}
	k := steps(2, 2)
	return append(l, task{api.Desk{Cakes: []api.Cake{k, k}, Log: filled(3)}, []int{0, 1}, r(0, 1)}, task{api.Desk{Cakes: []api.Cake{k, k}}, []int{1}, r(1, 1)})
}

// wrongTasks returns rounds that have an error.
func wrongTasks() []task {
	var l []task
	for _, f := range badDesks() {
		l = append(l, task{f.d, []int{0, 1}, r(0, 1)})
	}
	for _, agents := range noAgents() {
		l = append(l, task{api.Desk{Cakes: example(), Log: filled(2)}, agents, r(0, 1)})
	}
	for _, from := range noStarts() {
		l = append(l, task{api.Desk{Cakes: example(), Log: filled(2)}, []int{0, 1, 2}, from})
	}
	for _, c := range troubles() {
		l = append(l, task{api.Desk{Cakes: c.l, Log: filled(2)}, c.agents, c.from})
	}
	return append(l, task{api.Desk{Cakes: example(), Log: filled(api.MaxQuery - 1)}, []int{0, 1, 2}, r(0, 1)})
}

// R2: no call changes its arguments, also behind their ends, and also if it has an error.
func TestOnlyRead(t *testing.T) {
	for _, start := range slices.Concat(rightTasks(), wrongTasks()) {
		c, kept := roomy(start)
		trim.Round(c.d, c.agents, c.from)
		trim.Run(c.d.Cakes)
		if !kept() {
			t.Errorf("the arguments of %v were changed", start)
		}
	}
}

// lists returns functions that write over all the memory of one list of a desk each.
func lists(d api.Desk) []func() {
	l := []func(){
		func() { fill(d.Log, api.Query{Agent: -7}) },
		func() { fill(d.Cakes, api.Cake{Len: -7}) },
	}
	for _, c := range d.Cakes {
		l = append(l, func() { fill(c.Cuts, -7) }, func() { fill(c.Dens, -7) })
	}
	return l
}

// changed counts the lists of numbers of some cakes, and the logs, in which a desk differs from another one.
func changed(log []api.Query, cakes []api.Cake, want api.Desk) int {
	count := 0
	if !slices.Equal(log, want.Log) {
		count++
	}
	for i, c := range cakes {
		if !slices.Equal(c.Cuts, want.Cakes[i].Cuts) {
			count++
		}
		if !slices.Equal(c.Dens, want.Cakes[i].Dens) {
			count++
		}
	}
	return count
}

// R2: the desk after a round shares no memory with the arguments, with that of another call, nor within itself, also if nobody was asked.
func TestOwnMemoryOfDesks(t *testing.T) {
	for _, start := range rightTasks() {
		for i := range 2 + 2*len(start.d.Cakes) {
			c, kept := roomy(start)
			got, _, e := trim.Round(c.d, c.agents, c.from)
			again, _, f := trim.Round(c.d, c.agents, c.from)
			if e != api.OK || f != api.OK {
				t.Fatal(start, e, f)
			}
			copied, _ := roomy(task{d: got})
			cakes := slices.Clone(got.Cakes)
			lists(got)[i]()
			if !kept() || !sameDesk(again, copied.d) {
				t.Fatalf("%v: the desk shares memory with the arguments, or with that of another call", start)
			}
			if changed(got.Log, cakes, copied.d) > 1 {
				t.Fatalf("%v: lists of the desk share memory", start)
			}
		}
	}
}

// R2: the pieces, turns and logs of runs share no memory with each other, nor with those of other calls.
func TestOwnMemoryOfRuns(t *testing.T) {
	for _, c := range runs() {
		want := exact().run(c.l)
		d, turns, log, _ := trim.Run(c.l)
		again, otherTurns, otherLog, _ := trim.Run(c.l)
		fill(turns, api.Turn{Agent: -7})
		fill(log, api.Query{Agent: -7})
		if !sameDivision(d, want.division()) {
			t.Errorf("%v: the pieces share memory with the turns", c.l)
		}
		for k := range d.Pieces {
			fill(d.Pieces[k], api.Span{From: r(7, 1)})
			if !sameDivision(api.Division{Pieces: d.Pieces[k+1:]}, api.Division{Pieces: want.division().Pieces[k+1:]}) {
				t.Errorf("%v: the pieces share memory", c.l)
			}
		}
		fill(d.Pieces, nil)
		if !sameDivision(again, want.division()) || !slices.Equal(otherTurns, want.turns) || !slices.Equal(otherLog, want.log) {
			t.Errorf("%v: two runs share memory", c.l)
		}
	}
}

// R2: nothing is kept: each call has the same results again, also after others.
func TestNothingIsKept(t *testing.T) {
	all, first := runs(), examples()
	for range 2 {
		for _, c := range all {
			if _, turns, _, e := trim.Run(c.l); !slices.Equal(turns, c.turns) || e != api.OK {
				t.Errorf("Run(%v) = %v, %v", c.l, turns, e)
			}
			trim.Run(nil)
		}
		for _, c := range first {
			d := api.Desk{Cakes: c.l}
			if next, turn, e := trim.Round(d, c.agents, c.from); !slices.Equal(next.Log, c.asked) || turn != c.turn || e != api.OK || len(d.Log) != 0 {
				t.Errorf("Round(%v, %v, %v) = %v, %v, %v", c.l, c.agents, c.from, next, turn, e)
			}
		}
		slices.Reverse(all)
		slices.Reverse(first)
	}
}

// R3: nil and empty lists are the same.
func TestEmptyIsNil(t *testing.T) {
	for _, log := range [][]api.Query{nil, {}} {
		d := api.Desk{Cakes: example(), Log: log}
		if next, turn, e := trim.Round(d, []int{1}, r(5, 1)); !sameDesk(next, d) || turn != (api.Turn{Agent: 1, From: r(5, 1), To: r(6, 1)}) || e != api.OK {
			t.Errorf("Round = %v, %v, %v", next, turn, e)
		}
		for _, agents := range [][]int{nil, {}} {
			checkError(t, task{d, agents, r(0, 1)}, api.ErrArg)
		}
	}
	for _, l := range [][]api.Cake{nil, {}} {
		checkError(t, task{api.Desk{Cakes: l}, []int{0}, r(0, 1)}, api.ErrBad)
		if _, _, _, e := trim.Run(l); e != api.ErrBad {
			t.Errorf("Run without cakes = %v", e)
		}
	}
}
