package rent_test

import (
	"slices"
	"testing"

	"parcener/api"
	"parcener/rent"
)

// roomy returns a copy of a list that has memory behind its end, and a check whether all of that memory is as it was.
func roomy(l []int) (list []int, kept func() bool) {
	memory := append(slices.Clone(l), 91, 92, 93)
	before := slices.Clone(memory)
	return memory[:len(l)], func() bool { return slices.Equal(memory, before) }
}

// roomyFlat returns a copy of a flat, all lists of which have memory behind their ends, and a check whether all of that memory is as it was.
func roomyFlat(r api.Rooms) (api.Rooms, func() bool) {
	var checks []func() bool
	var memory [][]int
	for _, values := range append(slices.Clone(r.V), []int{94}, []int{95, 96}) {
		row, kept := roomy(values)
		memory = append(memory, row)
		checks = append(checks, kept)
	}
	before := copied(memory)
	checks = append(checks, func() bool { return sameLists(memory, before) })
	kept := func() bool { return !slices.ContainsFunc(checks, func(kept func() bool) bool { return !kept() }) }
	return api.Rooms{V: memory[:len(r.V)], Rent: r.Rent}, kept
}

// fill writes over all the memory of a list, also behind its end.
func fill(l []int, x int) {
	l = l[:cap(l)]
	for i := range l {
		l[i] = x
	}
}

// R2: no call changes its arguments, also behind their ends, and also if it has an error.
func TestOnlyRead(t *testing.T) {
	all := samples(200)
	for _, f := range badFlats() {
		all = append(all, f.r)
	}
	for _, start := range all {
		n := len(start.V)
		r, keptFlat := roomyFlat(start)
		fair, _ := rent.Fair(r)
		for _, l := range []api.Lease{fair, lease(1, counted(n), filled(n, 0, 0, start.Rent)...), lease(n, counted(n), list(n, start.Rent)...), lease(0, []int{1, 0}, 0)} {
			rooms, keptRooms := roomy(l.Room)
			prices, keptPrices := roomy(l.Price)
			rent.Worst(r, lease(l.Den, rooms, prices...))
			if !keptRooms() || !keptPrices() {
				t.Errorf("%v: the lease %v was changed", start, l)
			}
		}
		rent.Calm(r)
		for agent := range n + 1 {
			rent.Stake(r, agent)
		}
		if !keptFlat() || !sameLists(r.V, start.V) {
			t.Errorf("the flat %v was changed", start)
		}
	}
}

// R2: results share no memory with arguments, with each other, nor with those of other calls.
func TestOwnMemory(t *testing.T) {
	for _, c := range cases() {
		r := api.Rooms{V: copied(c.r.V), Rent: c.r.Rent}
		fair, _ := rent.Fair(r)
		calm, _ := rent.Calm(r)
		for range 2 {
			for _, found := range []struct {
				l    func(api.Rooms) (api.Lease, api.Errno)
				want api.Lease
			}{{rent.Fair, c.fair}, {rent.Calm, c.calm}} {
				l, _ := found.l(r)
				fill(l.Room, -7)
				if !slices.Equal(l.Price, found.want.Price) {
					t.Errorf("%v: the rooms and the prices share memory", c.r)
				}
				fill(l.Price, -7)
			}
		}
		if !sameLease(fair, c.fair) || !sameLease(calm, c.calm) {
			t.Errorf("%v: two calls share memory", c.r)
		}
		if !sameLists(r.V, c.r.V) {
			t.Errorf("%v: results share memory with arguments", c.r)
		}
	}
}

// R2: a flat whose lists are the same memory, and a lease whose rooms are also its prices, are as good as others.
func TestSharedArguments(t *testing.T) {
	row := []int{1, 2, 3}
	r := api.Rooms{V: [][]int{row, row, row}, Rent: 3}
	l := lease(1, []int{0, 1, 2}, 0, 1, 2)
	checkSolved(t, solved{r, l, l, qs(1, 1, 1, 1), qs(1, 1, 1, 1), qs(1, 1, 1, 1), qs(1, 1, 1, 1)})
	back := []int{2, 1, 0}
	checkWorst(t, r, api.Lease{Room: back, Price: back, Den: 1}, q(-1, 1), q(3, 1))
	if !slices.Equal(row, []int{1, 2, 3}) || !slices.Equal(back, []int{2, 1, 0}) {
		t.Errorf("the lists were changed to %v, %v", row, back)
	}
}

// R2: nothing is kept: each call has the same results again, also after others.
func TestNothingIsKept(t *testing.T) {
	flats, judgements := cases(), leases()
	for range 2 {
		for _, c := range flats {
			checkSolved(t, c)
			rent.Fair(api.Rooms{V: c.r.V, Rent: -1})
			rent.Calm(api.Rooms{})
			rent.Stake(c.r, -1)
		}
		for _, c := range judgements {
			checkWorst(t, c.r, c.l, c.least, c.most)
			rent.Worst(c.r, api.Lease{})
		}
		slices.Reverse(flats)
		slices.Reverse(judgements)
	}
}

// R3: nil and empty lists are the same.
func TestEmptyIsNil(t *testing.T) {
	one := api.Rooms{V: [][]int{{3}}, Rent: 2}
	for _, none := range [][]int{nil, {}} {
		for _, v := range [][][]int{nil, {}, {none}, {none, none}, {{1, 2}, none}} {
			checkBadFlat(t, api.Rooms{V: v}, api.ErrBad)
			checkNoWorst(t, api.Rooms{V: v}, lease(1, none, none...), api.ErrBad)
		}
		for _, l := range []api.Lease{lease(1, none, none...), lease(1, none, 2), lease(1, []int{0}, none...)} {
			checkNoWorst(t, one, l, api.ErrBad)
			checkNoWorst(t, api.Rooms{V: one.V}, l, api.ErrBad)
		}
	}
}
