package cake_test

import (
	"slices"
	"testing"

	"parcener/api"
	"parcener/cake"
)

// R1: the error of an invalid cake comes first, whatever the other arguments are, and with it all else is zero.
func TestInvalidCake(t *testing.T) {
	for _, f := range flaws() {
		if got, e := cake.Total(f.c); got != 0 || e != f.e {
			t.Errorf("Total(%v) = %v, %v", f.c, got, e)
		}
		if got, e := cake.Normal(f.c); !cake.Same(got, api.Cake{}) || e != f.e {
			t.Errorf("Normal(%v) = %v, %v", f.c, got, e)
		}
		for _, a := range append(noPoints(), r(0, 1), r(1, 1)) {
			if got, e := cake.Density(f.c, a); got != 0 || e != f.e {
				t.Errorf("Density(%v, %v) = %v, %v", f.c, a, got, e)
			}
			for _, b := range append(noPoints(), r(0, 1), r(1, 1)) {
				if got, e := cake.Value(f.c, a, b); got != (api.Ratio{}) || e != f.e {
					t.Errorf("Value(%v, %v, %v) = %v, %v", f.c, a, b, got, e)
				}
				if got, e := cake.Mark(f.c, a, b); got != (api.Ratio{}) || e != f.e {
					t.Errorf("Mark(%v, %v, %v) = %v, %v", f.c, a, b, got, e)
				}
			}
		}
		for _, p := range [][2]int{{0, 1}, {0, 5}, {1, 0}, {-1, 2000}, {0, 0}} {
			if got, e := cake.Part(f.c, p[0], p[1]); !cake.Same(got, api.Cake{}) || e != f.e {
				t.Errorf("Part(%v, %v) = %v, %v", f.c, p, got, e)
			}
		}
	}
}

// roomy returns a cake whose lists have memory behind their ends, and that memory.
func roomy(c api.Cake) (api.Cake, [2][]int) {
	cuts := append(slices.Clone(c.Cuts), 91, 92, 93)
	dens := append(slices.Clone(c.Dens), 94, 95, 96)
	return api.Cake{Len: c.Len, Cuts: cuts[:len(c.Cuts)], Dens: dens[:len(c.Dens)]}, [2][]int{cuts, dens}
}

// R2: no call changes its arguments, also behind their ends.
func TestOnlyRead(t *testing.T) {
	for _, start := range []api.Cake{sample(), flat(10, 3), striped(api.MaxCuts)} {
		c, memory := roomy(start)
		before := [2][]int{slices.Clone(memory[0]), slices.Clone(memory[1])}
		cake.Check(c)
		cake.Total(c)
		cake.Value(c, r(1, 2), r(7, 1))
		cake.Mark(c, r(1, 2), r(7, 1))
		cake.Density(c, r(1, 2))
		cake.Normal(c)
		cake.Same(c, c)
		for from := range c.Len {
			for to := from + 1; to <= c.Len; to++ {
				cake.Part(c, from, to)
			}
		}
		if c.Len != start.Len || !slices.Equal(memory[0], before[0]) || !slices.Equal(memory[1], before[1]) {
			t.Errorf("%v became %v", before, memory)
		}
	}
}

// spoil writes over all the memory of a cake, also behind the ends of its lists.
func spoil(c api.Cake) {
	for _, l := range [][]int{c.Cuts[:cap(c.Cuts)], c.Dens[:cap(c.Dens)]} {
		for i := range l {
			l[i] = -7
		}
	}
}

// R2: results share no memory with arguments, nor with results of other calls.
func TestOwnMemory(t *testing.T) {
	for _, start := range []api.Cake{sample(), flat(10, 3), {Len: 10, Cuts: []int{0, 4, 10}, Dens: []int{3, 3}}} {
		for name, call := range map[string]func(c api.Cake) (api.Cake, api.Errno){
			"Normal":       cake.Normal,
			"Part, all":    func(c api.Cake) (api.Cake, api.Errno) { return cake.Part(c, 0, 10) },
			"Part, first":  func(c api.Cake) (api.Cake, api.Errno) { return cake.Part(c, 0, 4) },
			"Part, last":   func(c api.Cake) (api.Cake, api.Errno) { return cake.Part(c, 6, 10) },
			"Part, within": func(c api.Cake) (api.Cake, api.Errno) { return cake.Part(c, 1, 7) },
		} {
			c, memory := roomy(start)
			before := [2][]int{slices.Clone(memory[0]), slices.Clone(memory[1])}
			got, e := call(c)
			again, f := call(c)
			if e != api.OK || f != api.OK || !cake.Same(got, again) {
				t.Errorf("%s of %v is %v, %v, and then %v, %v", name, start, got, e, again, f)
			}
			kept := api.Cake{Len: again.Len, Cuts: slices.Clone(again.Cuts), Dens: slices.Clone(again.Dens)}
			spoil(got)
			if !slices.Equal(memory[0], before[0]) || !slices.Equal(memory[1], before[1]) || !cake.Same(again, kept) {
				t.Errorf("%s of %v shares memory", name, start)
			}
		}
	}
}

// R2: the lists of one result share no memory with each other.
func TestListsApart(t *testing.T) {
	for _, call := range []func() (api.Cake, api.Errno){
		func() (api.Cake, api.Errno) { return cake.Normal(sample()) },
		func() (api.Cake, api.Errno) { return cake.Part(sample(), 1, 7) },
	} {
		got, _ := call()
		kept := slices.Clone(got.Dens)
		spoil(api.Cake{Cuts: got.Cuts})
		if !slices.Equal(got.Dens, kept) {
			t.Errorf("densities became %v with the cuts", got.Dens)
		}
		got, _ = call()
		kept = slices.Clone(got.Cuts)
		spoil(api.Cake{Dens: got.Dens})
		if !slices.Equal(got.Cuts, kept) {
			t.Errorf("cuts became %v with the densities", got.Cuts)
		}
	}
}
