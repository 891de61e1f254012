package halve_test

import (
	"slices"
	"testing"

	"parcener/api"
	"parcener/cake"
	"parcener/halve"
)

// roomyList returns a copy of a list that has memory behind its end, and a check whether all of that memory is as it was.
func roomyList[T any](l []T, filler T, same func(a, b T) bool) (list []T, kept func() bool) {
	memory := append(slices.Clone(l), filler, filler, filler)
	before := slices.Clone(memory)
	return memory[:len(l)], func() bool { return slices.EqualFunc(memory, before, same) }
}

// equal reports whether two values are equal.
func equal[T comparable](a, b T) bool { return a == b }

// roomy returns a copy of a task, all lists of which have memory behind their ends, and a check whether all of that memory is as it was.
func roomy(c task) (task, func() bool) {
	var checks []func() bool
	var cakes []api.Cake
	for _, k := range c.d.Cakes {
		cuts, keptCuts := roomyList(k.Cuts, 91, equal[int])
		dens, keptDens := roomyList(k.Dens, 92, equal[int])
		cakes = append(cakes, api.Cake{Len: k.Len, Cuts: cuts, Dens: dens})
		checks = append(checks, keptCuts, keptDens)
	}
	other := task{s: c.s}
	var keptCakes, keptLog, keptAgents func() bool
	other.d.Cakes, keptCakes = roomyList(cakes, api.Cake{Len: 93}, cake.Same)
	other.d.Log, keptLog = roomyList(c.d.Log, api.Query{Agent: 94}, equal[api.Query])
	other.agents, keptAgents = roomyList(c.agents, 95, equal[int])
	checks = append(checks, keptCakes, keptLog, keptAgents)
	return other, func() bool { return !slices.ContainsFunc(checks, func(kept func() bool) bool { return !kept() }) }
}

// fill writes over all the memory of a list, also behind its end.
func fill[T any](l []T, x T) {
	l = l[:cap(l)]
	for i := range l {
		l[i] = x
	}
}

// rightTasks returns splits that have no error, with and without a log, also with cakes that share their memory.
func rightTasks() []task {
	var l []task
	for _, c := range slices.Concat(examples(), edges()) {
		l = append(l, task{api.Desk{Cakes: c.l}, c.agents, c.s}, task{api.Desk{Cakes: c.l, Log: filled(9)}, c.agents, c.s})
	}
	k := steps(2, 2)
	return append(l, task{api.Desk{Cakes: []api.Cake{k, k, k}, Log: filled(3)}, []int{0, 1, 2}, span(r(0, 1), r(2, 1))}, task{api.Desk{Cakes: []api.Cake{k, k}}, []int{0, 1}, span(r(1, 1), r(2, 1))})
}

// wrongTasks returns splits that have an error.
func wrongTasks() []task {
	var l []task
	all, end := []int{0, 1, 2}, span(r(0, 1), r(6, 1))
	for _, f := range badDesks() {
		l = append(l, task{f.d, []int{0, 1}, span(r(0, 1), r(2, 1))})
	}
	for _, agents := range noAgents() {
		l = append(l, task{api.Desk{Cakes: example(), Log: filled(2)}, agents, end})
	}
	for _, s := range noSpans() {
		l = append(l, task{api.Desk{Cakes: example(), Log: filled(2)}, all, s})
	}
	for _, c := range troubles() {
		l = append(l, task{api.Desk{Cakes: c.l, Log: filled(2)}, c.agents, c.s})
	}
	return append(l, task{api.Desk{Cakes: example(), Log: filled(api.MaxQuery - 1)}, all, end})
}

// R2: no call changes its arguments, also behind their ends, and also if it has an error.
func TestOnlyRead(t *testing.T) {
	for _, start := range slices.Concat(rightTasks(), wrongTasks()) {
		c, kept := roomy(start)
		halve.Split(c.d, c.agents, c.s.From, c.s.To)
		halve.Run(c.d.Cakes)
		if !kept() {
			t.Errorf("the arguments of %v were changed", start)
		}
	}
}

// answered is all that a split gives, but for its cut and its error, which have no memory.
type answered struct {
	d           api.Desk
	left, right []int
}

// lists returns functions that write over all the memory of one list of an answer each.
func (a answered) lists() []func() {
	l := []func(){
		func() { fill(a.d.Log, api.Query{Agent: -7}) },
		func() { fill(a.left, -7) },
		func() { fill(a.right, -7) },
		func() { fill(a.d.Cakes, api.Cake{Len: -7}) },
	}
	for _, c := range a.d.Cakes {
		l = append(l, func() { fill(c.Cuts, -7) }, func() { fill(c.Dens, -7) })
	}
	return l
}

// copied returns an answer in other memory.
func (a answered) copied() answered {
	c, _ := roomy(task{d: a.d})
	return answered{c.d, slices.Clone(a.left), slices.Clone(a.right)}
}

// same reports whether two answers are the same.
func (a answered) same(b answered) bool {
	return sameDesk(a.d, b.d) && slices.Equal(a.left, b.left) && slices.Equal(a.right, b.right)
}

// changed counts the lists, but that of the cakes, in which an answer differs from what it was, going by its cakes as they were listed then.
func (a answered) changed(cakes []api.Cake, was answered) int {
	count := 0
	for _, same := range []bool{slices.Equal(a.d.Log, was.d.Log), slices.Equal(a.left, was.left), slices.Equal(a.right, was.right)} {
		if !same {
			count++
		}
	}
	for i, c := range cakes {
		if !slices.Equal(c.Cuts, was.d.Cakes[i].Cuts) {
			count++
		}
		if !slices.Equal(c.Dens, was.d.Cakes[i].Dens) {
			count++
		}
	}
	return count
}

// split returns the answer of a task that has no error.
func split(t *testing.T, c task) answered {
	t.Helper()
	next, _, left, right, e := halve.Split(c.d, c.agents, c.s.From, c.s.To)
	if e != api.OK {
		t.Fatal(c, e)
	}
	return answered{next, left, right}
}

// R2: what a split gives shares no memory with the arguments, with that of another call, nor within itself.
func TestOwnMemoryOfSplits(t *testing.T) {
	for _, start := range rightTasks() {
		for i := range 4 + 2*len(start.d.Cakes) {
			c, kept := roomy(start)
			got, again := split(t, c), split(t, c)
			was, cakes := got.copied(), slices.Clone(got.d.Cakes)
			got.lists()[i]()
			if !kept() || !again.same(was) {
				t.Fatalf("%v: a split shares memory with the arguments, or with another call", start)
			}
			if got.changed(cakes, was) > 1 {
				t.Fatalf("%v: lists of a split share memory", start)
			}
		}
	}
}

// R2: the pieces and logs of runs share no memory with each other, nor with those of other calls.
func TestOwnMemoryOfRuns(t *testing.T) {
	for _, c := range runs() {
		want := c.division()
		d, log, _ := halve.Run(c.l)
		asked := slices.Clone(log)
		again, other, _ := halve.Run(c.l)
		fill(log, api.Query{Agent: -7})
		for k := range d.Pieces {
			fill(d.Pieces[k], api.Span{From: r(7, 1)})
			if !sameDivision(api.Division{Pieces: d.Pieces[k+1:]}, api.Division{Pieces: want.Pieces[k+1:]}) {
				t.Errorf("%v: the pieces share memory", c.l)
			}
		}
		fill(d.Pieces, nil)
		if !sameDivision(again, want) || !slices.Equal(other, asked) {
			t.Errorf("%v: two runs share memory", c.l)
		}
	}
}

// R2: nothing is kept: each call has the same results again, also after others.
func TestNothingIsKept(t *testing.T) {
	all, first := runs(), slices.Concat(examples(), edges())
	for range 2 {
		for _, c := range all {
			if d, log, e := halve.Run(c.l); !sameDivision(d, c.division()) || len(log) != c.many || e != api.OK {
				t.Errorf("Run(%v) = %v, %v, %v", c.l, d, log, e)
			}
			halve.Run(nil)
		}
		for _, c := range first {
			d := api.Desk{Cakes: c.l}
			next, at, left, right, e := halve.Split(d, c.agents, c.s.From, c.s.To)
			if !slices.Equal(next.Log, c.o.asked) || !sameCut(cut(at, left, right), c.o) || e != api.OK || len(d.Log) != 0 {
				t.Errorf("Split(%v, %v, %v) = %v, %v, %v, %v, %v", c.l, c.agents, c.s, next, at, left, right, e)
			}
		}
		slices.Reverse(all)
		slices.Reverse(first)
	}
}

// R3: nil and empty lists are the same.
func TestEmptyIsNil(t *testing.T) {
	for _, log := range [][]api.Query{nil, {}} {
		d := api.Desk{Cakes: example(), Log: log}
		want := examples()[0]
		next, at, left, right, e := halve.Split(d, want.agents, want.s.From, want.s.To)
		if !sameDesk(next, api.Desk{Cakes: d.Cakes, Log: want.o.asked}) || !sameCut(cut(at, left, right), want.o) || e != api.OK {
			t.Errorf("Split = %v, %v, %v, %v, %v", next, at, left, right, e)
		}
		for _, agents := range [][]int{nil, {}} {
			checkError(t, task{d, agents, want.s}, api.ErrArg)
		}
	}
	for _, l := range [][]api.Cake{nil, {}} {
		checkError(t, task{api.Desk{Cakes: l}, []int{0, 1}, span(r(0, 1), r(1, 1))}, api.ErrBad)
		if _, _, e := halve.Run(l); e != api.ErrBad {
			t.Errorf("Run without cakes = %v", e)
		}
	}
}
