package room_test

import (
	"slices"
	"testing"

	"parcener/api"
	"parcener/room"
)

// roomy returns a copy of a list that has memory behind its end, and a check whether all of that memory is as it was.
func roomy(l []int) (list []int, kept func() bool) {
	memory := append(slices.Clone(l), 91, 92, 93)
	before := slices.Clone(memory)
	return memory[:len(l)], func() bool { return slices.Equal(memory, before) }
}

// roomyFlat returns a copy of a flat, all lists of which have memory behind their ends, and a check whether all of that memory is as it was.
func roomyFlat(r api.Rooms) (api.Rooms, func() bool) {
	var checks []func() bool
	var memory [][]int
	for _, values := range append(slices.Clone(r.V), []int{94}, []int{95, 96}) {
		row, kept := roomy(values)
		memory = append(memory, row)
		checks = append(checks, kept)
	}
	before := copied(memory)
	checks = append(checks, func() bool { return sameLists(memory, before) })
	kept := func() bool { return !slices.ContainsFunc(checks, func(kept func() bool) bool { return !kept() }) }
	return api.Rooms{V: memory[:len(r.V)], Rent: r.Rent}, kept
}

// fill writes over all the memory of a list, also behind its end.
func fill[T any](l []T, x T) {
	l = l[:cap(l)]
	for i := range l {
		l[i] = x
	}
}

// R2: no call changes its arguments, also behind their ends, and also if it has an error.
func TestOnlyRead(t *testing.T) {
	all := samples(200)
	for _, f := range badFlats() {
		all = append(all, f.r)
	}
	for _, start := range all {
		n := len(start.V)
		r, keptFlat := roomyFlat(start)
		even, _ := room.Even(r)
		for _, l := range []api.Lease{even, {Room: counted(n), Price: filled(n, 0, 0, start.Rent), Den: 1}, {Room: counted(n), Price: list(n, start.Rent), Den: n}, {Room: []int{1, 0}, Price: []int{0}, Den: 0}} {
			rooms, keptRooms := roomy(l.Room)
			prices, keptPrices := roomy(l.Price)
			given := api.Lease{Room: rooms, Price: prices, Den: l.Den}
			room.Valid(r, given)
			room.Gains(r, given)
			room.Envies(r, given)
			if !keptRooms() || !keptPrices() {
				t.Errorf("%v: the lease %v was changed", start, l)
			}
		}
		room.Check(r)
		room.Links(r)
		for at := range n + 1 {
			room.Range(r, at)
		}
		if !keptFlat() || !sameLists(r.V, start.V) {
			t.Errorf("the flat %v was changed", start)
		}
	}
}

// R2: results share no memory with arguments, with each other, nor with those of other calls.
func TestOwnMemory(t *testing.T) {
	for _, c := range cases() {
		n := len(c.r.V)
		r := api.Rooms{V: copied(c.r.V), Rent: c.r.Rent}
		l := copyOf(c.even)
		exchanged := copyOf(l)
		slices.Reverse(exchanged.Room)
		pairs := enviesIn(r, exchanged)
		for range 2 {
			even, _ := room.Even(r)
			evens, _ := room.Even(r)
			fill(even.Room, -7)
			if !slices.Equal(even.Price, c.even.Price) {
				t.Errorf("%v: the rooms and the prices share memory", c.r)
			}
			fill(even.Price, -7)
			links, _ := room.Links(r)
			again, _ := room.Links(r)
			for from := range n {
				if !sameLists(links[from:], c.links[from:]) {
					t.Errorf("%v: the lists of links share memory", c.r)
				}
				fill(links[from], -7)
			}
			fill(links, nil)
			gain, _ := room.Gains(r, l)
			gains, _ := room.Gains(r, l)
			fill(gain, -7)
			envy, _ := room.Envies(r, exchanged)
			envies, _ := room.Envies(r, exchanged)
			fill(envy, [2]int{-7, -7})
			if !sameLease(evens, c.even) || !sameLists(again, c.links) || !slices.Equal(gains, c.gains) || !slices.Equal(envies, pairs) {
				t.Errorf("%v: two calls share memory", c.r)
			}
			if !sameLists(r.V, c.r.V) || !sameLease(l, c.even) {
				t.Errorf("%v: results share memory with arguments", c.r)
			}
		}
	}
}

// R2: a flat whose lists are the same memory, and a lease whose rooms are also its prices, are as good as others.
func TestSharedArguments(t *testing.T) {
	row := []int{1, 2, 3}
	r := api.Rooms{V: [][]int{row, row, row}, Rent: 3}
	checkSolved(t, solved{
		r,
		api.Lease{Room: []int{0, 1, 2}, Price: []int{0, 1, 2}, Den: 1},
		[]int{1, 1, 1},
		[][]int{{0, 1, 2}, {-1, 0, 1}, {-2, -1, 0}},
		qs(1, 0, 1, 2), qs(1, 0, 1, 2),
	})
	both := []int{0, 1, 2}
	checkJudged(t, judged{r, api.Lease{Room: both, Price: both, Den: 1}, []int{1, 1, 1}, nil})
	back := []int{2, 1, 0}
	checkJudged(t, judged{r, api.Lease{Room: back, Price: back, Den: 1}, []int{3, 1, -1}, [][2]int{{1, 0}, {2, 0}, {2, 1}}})
	if !slices.Equal(row, []int{1, 2, 3}) || !slices.Equal(both, []int{0, 1, 2}) || !slices.Equal(back, []int{2, 1, 0}) {
		t.Errorf("the lists were changed to %v, %v, %v", row, both, back)
	}
}

// R2: nothing is kept: each call has the same results again, also after others.
func TestNothingIsKept(t *testing.T) {
	flats, judgements := cases(), leases()
	for range 2 {
		for _, c := range flats {
			checkSolved(t, c)
			room.Even(api.Rooms{V: c.r.V, Rent: -1})
			room.Range(c.r, -1)
			room.Links(api.Rooms{})
		}
		for _, c := range judgements {
			checkJudged(t, c)
			room.Envies(c.r, api.Lease{})
		}
		slices.Reverse(flats)
		slices.Reverse(judgements)
	}
}

// R3: nil and empty lists are the same.
func TestEmptyIsNil(t *testing.T) {
	one := api.Rooms{V: [][]int{{3}}, Rent: 2}
	for _, none := range [][]int{nil, {}} {
		for _, v := range [][][]int{nil, {}, {none}, {none, none}, {{1, 2}, none}} {
			checkBadFlat(t, api.Rooms{V: v}, api.ErrBad)
			checkBadLease(t, api.Rooms{V: v}, api.Lease{Room: none, Price: none, Den: 1}, api.ErrBad)
		}
		for _, l := range []api.Lease{{Room: none, Price: none, Den: 1}, {Room: none, Price: []int{2}, Den: 1}, {Room: []int{0}, Price: none, Den: 1}} {
			checkBadLease(t, one, l, api.ErrBad)
			checkBadLease(t, api.Rooms{V: one.V}, l, api.ErrBad)
		}
	}
}
