package proof_test

import (
	"slices"
	"testing"

	"parcener/api"
	"parcener/cake"
	"parcener/proof"
)

// R1: Check's error comes first, whatever the claim or the certificate is, and with it all else is zero.
func TestInvalidDivision(t *testing.T) {
	for _, f := range flaws() {
		if got, e := proof.Worth(f.l, f.d); len(got) != 0 || e != f.e {
			t.Errorf("Worth(%v) = %v, %v; want %v", f.task, got, e, f.e)
		}
		if p, e := proof.Make(f.l, f.d); p.Claims != 0 || len(p.Worth) != 0 || e != f.e {
			t.Errorf("Make(%v) = %v, %v; want %v", f.task, p, e, f.e)
		}
		for claim := range 256 {
			if holds, e := proof.Holds(f.l, f.d, uint8(claim)); holds || e != f.e {
				t.Errorf("%v: Holds(%d) = %v, %v; want %v", f.task, claim, holds, e, f.e)
			}
			if a, b, e := proof.Witness(f.l, f.d, uint8(claim)); a != 0 || b != 0 || e != f.e {
				t.Errorf("%v: Witness(%d) = %d, %d, %v; want %v", f.task, claim, a, b, e, f.e)
			}
			for _, worth := range [][][]api.Ratio{nil, {{r(1, 1)}}, {{r(1, 1), r(1, 1)}, {r(3, 1), r(1, 1)}}} {
				if ok, e := proof.Accept(f.l, f.d, api.Proof{Claims: uint8(claim), Worth: worth}); ok || e != f.e {
					t.Errorf("%v: Accept(%d, %v) = %v, %v; want %v", f.task, claim, worth, ok, e, f.e)
				}
			}
		}
	}
}

// roomyList returns a copy of a list that has memory behind its end, and a check whether all of that memory is as it was.
func roomyList[T any](l []T, filler T, same func(a, b T) bool) (list []T, kept func() bool) {
	memory := append(slices.Clone(l), filler, filler, filler)
	before := slices.Clone(memory)
	return memory[:len(l)], func() bool { return slices.EqualFunc(memory, before, same) }
}

// equal reports whether two values are equal.
func equal[T comparable](a, b T) bool { return a == b }

// sameLengths reports whether two lists are of the same length: what is in them is looked at elsewhere.
func sameLengths[T any](a, b []T) bool { return len(a) == len(b) }

// roomy returns a copy of a division and of a certificate, all lists of which have memory behind their ends, and a check whether all of that memory is as it was.
func roomy(c task, p api.Proof) (task, api.Proof, func() bool) {
	var checks []func() bool
	keep := func(kept func() bool) { checks = append(checks, kept) }
	var cakes []api.Cake
	for _, k := range c.l {
		cuts, keptCuts := roomyList(k.Cuts, 91, equal[int])
		dens, keptDens := roomyList(k.Dens, 92, equal[int])
		cakes = append(cakes, api.Cake{Len: k.Len, Cuts: cuts, Dens: dens})
		keep(keptCuts)
		keep(keptDens)
	}
	var pieces [][]api.Span
	for _, l := range c.d.Pieces {
		spans, kept := roomyList(l, of(1, 2), equal[api.Span])
		pieces = append(pieces, spans)
		keep(kept)
	}
	var rows [][]api.Ratio
	for _, l := range p.Worth {
		row, kept := roomyList(l, r(1, 9), equal[api.Ratio])
		rows = append(rows, row)
		keep(kept)
	}
	var other task
	var kept func() bool
	other.l, kept = roomyList(cakes, api.Cake{Len: 93}, cake.Same)
	keep(kept)
	other.d.Pieces, kept = roomyList(pieces, one(of(7, 8)), sameLengths[api.Span])
	keep(kept)
	q := api.Proof{Claims: p.Claims}
	q.Worth, kept = roomyList(rows, []api.Ratio{r(1, 9)}, sameLengths[api.Ratio])
	keep(kept)
	return other, q, func() bool { return !slices.ContainsFunc(checks, func(kept func() bool) bool { return !kept() }) }
}

// samples returns divisions of all kinds, also some that are not valid.
func samples() []task {
	l := slices.Concat(tasks()[:60], noWorth(), noParts())
	for _, c := range judgements() {
		l = append(l, c.task)
	}
	for _, f := range flaws() {
		l = append(l, f.task)
	}
	return l
}

// R2: no call changes its arguments, also behind their ends, and also if it has an error.
func TestOnlyRead(t *testing.T) {
	for _, start := range samples() {
		made, _ := proof.Make(start.l, start.d)
		for _, p := range []api.Proof{made, {Claims: everything, Worth: [][]api.Ratio{{r(2, 1)}, {r(1, 1), r(2, 4)}}}} {
			c, q, kept := roomy(start, p)
			proof.Check(c.l, c.d)
			proof.Worth(c.l, c.d)
			proof.Make(c.l, c.d)
			proof.Accept(c.l, c.d, q)
			for claim := range 40 {
				proof.Holds(c.l, c.d, uint8(claim))
				proof.Witness(c.l, c.d, uint8(claim))
			}
			if !kept() {
				t.Errorf("the arguments of %v were changed", start)
			}
		}
	}
}

// fill writes over all the memory of a list, also behind its end.
func fill[T any](l []T, x T) {
	l = l[:cap(l)]
	for i := range l {
		l[i] = x
	}
}

// R2: results share no memory with arguments, with results of other calls, nor with each other.
func TestOwnMemory(t *testing.T) {
	worths := []func(c task) [][]api.Ratio{
		func(c task) [][]api.Ratio { worth, _ := proof.Worth(c.l, c.d); return worth },
		func(c task) [][]api.Ratio { p, _ := proof.Make(c.l, c.d); return p.Worth },
	}
	for _, start := range judgements() {
		for _, worthOf := range worths {
			c, _, kept := roomy(start.task, api.Proof{})
			got, again := worthOf(c), worthOf(c)
			want := copied(got)
			for i := range got {
				fill(got[i], r(-7, 1))
				if !slices.EqualFunc(got[i+1:], want[i+1:], slices.Equal) {
					t.Fatalf("%v: lists of one worth share memory", start.task)
				}
			}
			fill(got, nil)
			if !kept() || !slices.EqualFunc(again, want, slices.Equal) {
				t.Errorf("%v: a worth shares memory with the arguments, or with that of another call", start.task)
			}
		}
	}
}

// R2: nothing is kept from call to call: each one gives the same again, after calls with other arguments.
func TestNothingIsKept(t *testing.T) {
	all := judgements()
	for range 2 {
		for _, c := range all {
			if p, e := proof.Make(c.l, c.d); p.Claims != c.claims || e != api.OK {
				t.Errorf("Make(%v) = %v, %v", c.task, p, e)
			}
		}
		slices.Reverse(all)
	}
}

// R3: nil and empty lists are the same.
func TestEmptyIsNil(t *testing.T) {
	for _, none := range [][]api.Span{nil, {}} {
		d := division(one(of(0, 2)), none)
		p, e := proof.Make(example(), d)
		if p.Claims != api.ClaimWhole || e != api.OK {
			t.Errorf("Make(%v) = %v, %v", d, p, e)
		}
		if a, b, e := proof.Witness(example(), d, api.ClaimOne); a != 1 || b != 1 || e != api.OK {
			t.Errorf("Witness(%v) = %d, %d, %v", d, a, b, e)
		}
		for _, worth := range [][][]api.Ratio{nil, {}, {nil, nil}, {{}, {}}} {
			if ok, e := proof.Accept(example(), d, api.Proof{Worth: worth}); ok || e != api.OK {
				t.Errorf("Accept(%v, %v) = %v, %v", d, worth, ok, e)
			}
		}
	}
	for _, l := range [][]api.Cake{nil, {}} {
		for _, pieces := range [][][]api.Span{nil, {}} {
			if e := proof.Check(l, division(pieces...)); e != api.ErrBad {
				t.Errorf("Check without cakes = %v", e)
			}
		}
	}
}
