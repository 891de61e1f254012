package ask_test

import (
	"slices"
	"testing"

	"parcener/api"
	"parcener/ask"
)

// R1: the error of an invalid desk comes first, whatever the other arguments are, and with it all else is zero.
func TestInvalidDesk(t *testing.T) {
	for _, f := range flaws() {
		for _, agent := range append(noAgents(), 0, 1) {
			if got, e := ask.Total(f.d, agent); got != 0 || e != f.e {
				t.Errorf("Total(%v, %d) = %d, %v", f.d.Cakes, agent, got, e)
			}
			for _, w := range ways() {
				for _, a := range []api.Ratio{r(0, 1), r(1, top), r(2, 1), {}} {
					next, v, e := w.ask(f.d, agent, a, r(1, 1))
					if !same(next, api.Desk{}) || v != (api.Ratio{}) || e != f.e {
						t.Errorf("%s(%v, %d, %v) = %v, %v, %v", w.name, f.d.Cakes, agent, a, next, v, e)
					}
				}
			}
		}
	}
}

// roomyList returns a copy of a list that has memory behind its end, and all of that memory.
func roomyList[T any](l []T, filler T) (list, memory []T) {
	memory = append(slices.Clone(l), filler, filler, filler)
	return memory[:len(l)], memory
}

// memory is all the memory of a desk, also behind the ends of its lists.
type memory struct {
	cakes   []api.Cake
	numbers [][]int
	log     []api.Query
}

// roomy returns a copy of a desk whose lists all have memory behind their ends, and that memory.
func roomy(d api.Desk) (api.Desk, memory) {
	var m memory
	var l []api.Cake
	for _, c := range d.Cakes {
		cuts, allCuts := roomyList(c.Cuts, 91)
		dens, allDens := roomyList(c.Dens, 92)
		l = append(l, api.Cake{Len: c.Len, Cuts: cuts, Dens: dens})
		m.numbers = append(m.numbers, allCuts, allDens)
	}
	var copied api.Desk
	copied.Cakes, m.cakes = roomyList(l, api.Cake{Len: 93})
	copied.Log, m.log = roomyList(d.Log, api.Query{Agent: 94})
	return copied, m
}

// snapshot returns a copy of the numbers in memory as they are now.
func (m memory) snapshot() memory {
	s := memory{cakes: slices.Clone(m.cakes), log: slices.Clone(m.log)}
	for _, l := range m.numbers {
		s.numbers = append(s.numbers, slices.Clone(l))
	}
	return s
}

// equal reports whether memory still is as in a snapshot.
func (m memory) equal(s memory) bool {
	// What lies in the lists of the cakes is among the numbers.
	cakes := func(a, b api.Cake) bool {
		return a.Len == b.Len && len(a.Cuts) == len(b.Cuts) && len(a.Dens) == len(b.Dens)
	}
	return slices.EqualFunc(m.cakes, s.cakes, cakes) && slices.EqualFunc(m.numbers, s.numbers, slices.Equal) && slices.Equal(m.log, s.log)
}

// lists returns functions that write over all the memory of one list of a desk each.
func lists(d api.Desk) []func() {
	l := []func(){
		func() { fill(d.Cakes, api.Cake{Len: -7}) },
		func() { fill(d.Log, api.Query{Agent: -7}) },
	}
	for _, c := range d.Cakes {
		l = append(l, func() { fill(c.Cuts, -7) }, func() { fill(c.Dens, -7) })
	}
	return l
}

// fill writes over all the memory of a list, also behind its end.
func fill[T any](l []T, x T) {
	l = l[:cap(l)]
	for i := range l {
		l[i] = x
	}
}

// deskCall is a call with a desk that returns one.
type deskCall struct {
	name string
	call func(d api.Desk) api.Desk
}

func deskCalls() []deskCall {
	return []deskCall{
		{"Open", func(d api.Desk) api.Desk { next, _ := ask.Open(d.Cakes); return next }},
		{"Value", func(d api.Desk) api.Desk { next, _, _ := ask.Value(d, 0, r(0, 1), r(1, 1)); return next }},
		{"Mark", func(d api.Desk) api.Desk { next, _, _ := ask.Mark(d, 0, r(0, 1), r(1, 1)); return next }},
	}
}

// samples returns desks, one of which has cakes that share their lists.
func samples() []api.Desk {
	c := steep()
	return []api.Desk{
		{Cakes: example()}, {Cakes: six(), Log: right()}, {Cakes: []api.Cake{steep()}, Log: filled(100)},
		{Cakes: example(), Log: []api.Query{}}, {Cakes: []api.Cake{c, c, c}, Log: right()},
	}
}

// R2: no call changes its arguments, also behind their ends.
func TestOnlyRead(t *testing.T) {
	for _, start := range samples() {
		d, m := roomy(start)
		before := m.snapshot()
		for _, c := range deskCalls() {
			c.call(d)
		}
		ask.Check(d)
		ask.Total(d, 0)
		ask.Count(d.Log, 0)
		ask.Count(d.Log, -1)
		ask.Replay(d.Cakes, d.Log)
		// Calls with an error have no effect either.
		ask.Total(d, -1)
		ask.Value(d, 0, r(1, 1), r(0, 1))
		ask.Mark(d, 0, r(0, 1), r(100, 1))
		if !same(d, start) || !m.equal(before) {
			t.Errorf("%v became %v", start, d)
		}
	}
}

// R2: results share no memory with arguments, with results of other calls, nor with each other.
func TestOwnMemory(t *testing.T) {
	for _, start := range samples() {
		for _, c := range deskCalls() {
			for i := range lists(c.call(start)) {
				d, m := roomy(start)
				before := m.snapshot()
				got, again := c.call(d), c.call(d)
				want, _ := roomy(got)
				if len(got.Cakes) != len(start.Cakes) || !same(got, again) {
					t.Fatalf("%s of %v is %v, and then %v", c.name, start, got, again)
				}
				// All lists were found before one of them is written over.
				others := lists(got)
				others[i]()
				if !m.equal(before) || !same(d, start) {
					t.Errorf("%s of %v shares memory with its arguments", c.name, start)
				}
				if !same(again, want) {
					t.Errorf("the results of two calls of %s of %v share memory", c.name, start)
				}
				if changed := differences(got, want); changed > 1 {
					t.Errorf("%s of %v: %d lists share memory", c.name, start, changed)
				}
			}
		}
	}
}

// differences counts the lists in which two desks with as many cakes differ. If it is the list of cakes, nothing else is looked at.
func differences(a, b api.Desk) int {
	count := 0
	if !slices.Equal(a.Log, b.Log) {
		count++
	}
	if len(a.Cakes) > 0 && a.Cakes[0].Len != b.Cakes[0].Len {
		return count + 1
	}
	for i, c := range a.Cakes {
		if !slices.Equal(c.Cuts, b.Cakes[i].Cuts) {
			count++
		}
		if !slices.Equal(c.Dens, b.Cakes[i].Dens) {
			count++
		}
	}
	return count
}

// R2: the desk that was asked can be asked again, and gives the same answer; both desks after it are apart.
func TestNothingIsKept(t *testing.T) {
	d, e := ask.Open(example())
	if e != api.OK {
		t.Fatal(e)
	}
	first, one, _ := ask.Mark(d, 1, r(0, 1), r(1, 1))
	second, two, _ := ask.Value(d, 0, r(0, 1), r(1, 1))
	again, three, _ := ask.Mark(d, 1, r(0, 1), r(1, 1))
	if one != three || two != r(1, 1) || !same(first, again) || len(d.Log) != 0 || len(first.Log) != 1 {
		t.Errorf("%v, %v, %v; %v, %v", one, two, three, first, again)
	}
	if !slices.Equal(second.Log, []api.Query{told(0, r(0, 1), r(1, 1), r(1, 1))}) {
		t.Errorf("the log of the second desk is %v", second.Log)
	}
}

// R3: nil and empty lists are the same.
func TestEmptyIsNil(t *testing.T) {
	d := api.Desk{Cakes: example(), Log: []api.Query{}}
	if e := ask.Check(d); e != api.OK {
		t.Errorf("Check with an empty log = %v", e)
	}
	for _, log := range [][]api.Query{nil, {}} {
		if n, e := ask.Replay(example(), log); n != 0 || e != api.OK {
			t.Errorf("Replay of no queries = %d, %v", n, e)
		}
		if n, e := ask.Replay([]api.Cake{}, log); n != 0 || e != api.ErrBad {
			t.Errorf("Replay without cakes = %d, %v", n, e)
		}
	}
	if d, e := ask.Open([]api.Cake{}); !same(d, api.Desk{}) || e != api.ErrBad {
		t.Errorf("Open of no cakes = %v, %v", d, e)
	}
}
