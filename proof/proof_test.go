package proof_test

import (
	"slices"
	"testing"

	"parcener/api"
	"parcener/proof"
)

// judged is a division, its claims, and the counterexamples to the five claims; one to a claim that holds is not looked at.
type judged struct {
	task
	claims    uint8
	witnesses [5]pair
}

func judgements() []judged {
	none, gap := pair{}, pair{-1, -1}
	whole, share, envy, equal, connected := api.ClaimWhole, api.ClaimShare, api.ClaimEnvy, api.ClaimEqual, api.ClaimOne
	left, right := one(of(0, 1)), one(of(1, 2))
	three := []api.Cake{flat(6, 1), {Len: 6, Cuts: []int{0, 2, 6}, Dens: []int{2, 0}}, {Len: 6, Cuts: []int{0, 4, 6}, Dens: []int{1, 4}}}
	single := []api.Cake{{Len: 3, Cuts: []int{0, 1, 2, 3}, Dens: []int{1, 0, 1}}}
	long := slices.Repeat([]api.Cake{flat(360, 1)}, api.MaxAgents)
	var sixths [][]api.Span
	for i := range int64(api.MaxAgents) {
		sixths = append(sixths, comb(api.MaxSpans, i, 1, api.MaxAgents))
	}
	return []judged{
		// the chapter's examples
		{task{example(), division(left, right)}, whole + connected, [5]pair{none, {1, 1}, {1, 0}, {1, 0}, none}},
		{task{example(), division(right, left)}, whole + share + envy + connected, [5]pair{none, none, none, {1, 0}, none}},
		// A cake with one agent is whole only with the part that is worth nothing; its share is all that is worth something.
		{task{single, division(one(of(0, 3)))}, everything, [5]pair{}},
		{task{single, division(one(of(0, 1), of(2, 3)))}, share + envy + equal, [5]pair{gap, none, none, none, {0, 0}}},
		{task{single, division(one(of(0, 2)))}, envy + equal + connected, [5]pair{gap, {0, 0}, none, none, none}},
		{task{single, division(nil)}, envy + equal, [5]pair{gap, {0, 0}, none, none, {0, 0}}},
		// Points at one end, or between two pieces, that nobody has.
		{task{three, division(one(of(2, 4)), one(of(0, 1)), one(of(5, 6)))}, share + envy + connected, [5]pair{gap, none, none, {1, 0}, none}},
		{task{three, division(one(of(2, 4)), one(of(0, 2)), one(of(4, 5)))}, share + envy + connected, [5]pair{gap, none, none, {1, 0}, none}},
		// Nobody, or everybody, has all of it.
		{task{three, division(nil, nil, nil)}, envy + equal, [5]pair{gap, {0, 0}, none, none, {0, 0}}},
		{task{three, division(one(of(0, 6)), one(of(0, 6)), one(of(0, 6)))}, share + envy + equal + connected, [5]pair{{0, 1}, none, none, none, none}},
		{task{three, division(nil, nil, one(of(0, 6)))}, whole, [5]pair{none, {0, 0}, {0, 2}, {2, 0}, {0, 0}}},
		{task{three, division(one(of(0, 6)), nil, nil)}, whole, [5]pair{none, {1, 1}, {1, 0}, {1, 0}, {1, 1}}},
		// Common points come ahead of those that nobody has, and the first pair ahead of what lies more to the left.
		{task{three, division(one(of(0, 3)), one(of(3, 6)), one(of(2, 4)))}, connected, [5]pair{{0, 2}, {1, 1}, {1, 0}, {1, 0}, none}},
		{task{three, division(one(of(3, 5)), one(of(1, 4)), one(of(1, 2)))}, connected, [5]pair{{0, 1}, {2, 2}, {0, 1}, {1, 0}, none}},
		{task{three, division(one(of(5, 6)), one(of(0, 2)), one(of(0, 1)))}, connected, [5]pair{{1, 2}, {0, 0}, {0, 1}, {1, 0}, none}},
		{task{three, division(one(of(0, 1), of(2, 3)), one(of(1, 2), of(3, 4)), one(of(4, 6)))}, whole + share + envy, [5]pair{none, none, none, {1, 0}, {0, 0}}},
		// Each one has its share, and still prefers another piece.
		{task{three, division(one(of(1, 3)), one(of(0, 1)), one(of(3, 6)))}, whole + share + connected, [5]pair{none, none, {0, 2}, {1, 0}, none}},
		// As many spans as there may be: one after the other, and so many common ones that a piece cannot have them.
		{task{long, division(sixths...)}, whole + share + envy + equal, [5]pair{none, none, none, none, {0, 0}}},
		{task{long[:2], division(comb(api.MaxSpans, 0, 3, 4), comb(api.MaxSpans, 2, 3, 4))}, share + envy + equal, [5]pair{{0, 1}, none, none, none, {0, 0}}},
		{task{long[:2], division(comb(api.MaxSpans, 0, 1, 2), one(of(118, 360)))}, 0, [5]pair{{0, 1}, {0, 0}, {0, 1}, {1, 0}, {0, 0}}},
	}
}

// P6.2, P6.3: which claims hold, and what speaks against the others.
func TestJudgements(t *testing.T) {
	for _, c := range judgements() {
		for i, claim := range five() {
			holds := c.claims&claim != 0
			if got, e := proof.Holds(c.l, c.d, claim); got != holds || e != api.OK {
				t.Errorf("%v: Holds(%d) = %v, %v", c.task, claim, got, e)
			}
			a, b, e := proof.Witness(c.l, c.d, claim)
			want, wantErr := c.witnesses[i], api.OK
			if holds {
				want, wantErr = pair{}, api.ErrNone
			}
			if (pair{a, b}) != want || e != wantErr {
				t.Errorf("%v: Witness(%d) = %d, %d, %v; want %v, %v", c.task, claim, a, b, e, want, wantErr)
			}
		}
	}
}

// P6.2, P6.3: the certificate has all claims that hold, and is true.
func TestCertificates(t *testing.T) {
	for _, c := range judgements() {
		p, e := proof.Make(c.l, c.d)
		worth, f := proof.Worth(c.l, c.d)
		if p.Claims != c.claims || !slices.EqualFunc(p.Worth, worth, slices.Equal) || e != api.OK || f != api.OK {
			t.Errorf("%v: Make = %v, %v; want the claims %d, and the worth %v, %v", c.task, p, e, c.claims, worth, f)
		}
		if ok, e := proof.Accept(c.l, c.d, p); !ok || e != api.OK {
			t.Errorf("%v: Accept(%v) = %v, %v", c.task, p, ok, e)
		}
	}
}

// P6.1: Check tells what is wrong with a division, the cakes first, and the ends of spans last.
func TestCheckInvalid(t *testing.T) {
	for _, f := range flaws() {
		if e := proof.Check(f.l, f.d); e != f.e {
			t.Errorf("Check(%v) = %v; want %v", f.task, e, f.e)
		}
	}
}

// P6.1: Check accepts all valid divisions, also those whose worth has no ratio.
func TestCheckValid(t *testing.T) {
	for _, c := range slices.Concat(noWorth(), noParts(), tasks()) {
		if e := proof.Check(c.l, c.d); e != api.OK {
			t.Errorf("Check(%v) = %v", c, e)
		}
	}
	for _, c := range judgements() {
		if e := proof.Check(c.l, c.d); e != api.OK {
			t.Errorf("Check(%v) = %v", c.task, e)
		}
	}
}

// P6.1: the worth has a list for each agent, with an element for each piece.
func TestWorth(t *testing.T) {
	zero := r(0, 1)
	for _, c := range []struct {
		task
		want [][]api.Ratio
	}{
		{task{example(), division(one(of(0, 1)), one(of(1, 2)))}, [][]api.Ratio{{r(1, 1), r(1, 1)}, {r(3, 1), r(1, 1)}}},
		{task{example(), division(one(of(1, 2)), one(of(0, 1)))}, [][]api.Ratio{{r(1, 1), r(1, 1)}, {r(1, 1), r(3, 1)}}},
		{task{example(), division(nil, one(span(r(1, 2), r(4, 3))))}, [][]api.Ratio{{zero, r(5, 6)}, {zero, r(11, 6)}}},
		{task{example(), division(one(of(0, 2)), one(span(r(0, 1), r(1, 3)), span(r(3, 2), r(2, 1))))}, [][]api.Ratio{{r(2, 1), r(5, 6)}, {r(4, 1), r(3, 2)}}},
		{task{[]api.Cake{flat(7, 12)}, division(nil)}, [][]api.Ratio{{zero}}},
		{task{[]api.Cake{flat(7, 12)}, division(one(of(3, 4), of(6, 7)))}, [][]api.Ratio{{r(24, 1)}}},
		{task{[]api.Cake{flat(2, 1), flat(2, 2), flat(2, 3)}, division(one(of(0, 1)), one(of(0, 2)), nil)}, [][]api.Ratio{{r(1, 1), r(2, 1), zero}, {r(2, 1), r(4, 1), zero}, {r(3, 1), r(6, 1), zero}}},
		{task{example()[:1], division(one(span(r(0, 1), r(1, top))))}, [][]api.Ratio{{r(1, top)}}},
	} {
		if got, e := proof.Worth(c.l, c.d); !slices.EqualFunc(got, c.want, slices.Equal) || e != api.OK {
			t.Errorf("Worth(%v) = %v, %v; want %v", c.task, got, e, c.want)
		}
	}
}

// noClaims returns all numbers that are none of the five claims.
func noClaims() []uint8 {
	var l []uint8
	for claim := range 256 {
		if !slices.Contains(five(), uint8(claim)) {
			l = append(l, uint8(claim))
		}
	}
	return l
}

// P6.2, P6.3: what is not just one claim is ErrArg, ahead of a worth or a part that has no ratio.
func TestNoClaims(t *testing.T) {
	for _, c := range slices.Concat(noWorth(), noParts(), tasks()[:20]) {
		for _, claim := range noClaims() {
			if holds, e := proof.Holds(c.l, c.d, claim); holds || e != api.ErrArg {
				t.Errorf("%v: Holds(%d) = %v, %v", c, claim, holds, e)
			}
			if a, b, e := proof.Witness(c.l, c.d, claim); a != 0 || b != 0 || e != api.ErrArg {
				t.Errorf("%v: Witness(%d) = %d, %d, %v", c, claim, a, b, e)
			}
		}
	}
}

// P6.1, P6.2, P6.3: a worth that has no ratio is told by all calls, whatever the claims are.
func TestNoWorth(t *testing.T) {
	for _, c := range noWorth() {
		if got, e := proof.Worth(c.l, c.d); len(got) != 0 || e != api.ErrRange {
			t.Errorf("Worth(%v) = %v, %v", c, got, e)
		}
		if p, e := proof.Make(c.l, c.d); p.Claims != 0 || len(p.Worth) != 0 || e != api.ErrRange {
			t.Errorf("Make(%v) = %v, %v", c, p, e)
		}
		for _, claim := range five() {
			if holds, e := proof.Holds(c.l, c.d, claim); holds || e != api.ErrRange {
				t.Errorf("%v: Holds(%d) = %v, %v", c, claim, holds, e)
			}
			if a, b, e := proof.Witness(c.l, c.d, claim); a != 0 || b != 0 || e != api.ErrRange {
				t.Errorf("%v: Witness(%d) = %d, %d, %v", c, claim, a, b, e)
			}
		}
		for _, p := range []api.Proof{{}, {Claims: 255}, {Claims: everything, Worth: [][]api.Ratio{{r(1, 1)}}}} {
			if ok, e := proof.Accept(c.l, c.d, p); ok || e != api.ErrRange {
				t.Errorf("%v: Accept(%v) = %v, %v", c, p, ok, e)
			}
		}
	}
}

// P6.2, P6.3: a part that has no ratio is told where ClaimEqual is judged, and so for the certificate.
func TestNoParts(t *testing.T) {
	for _, c := range noParts() {
		if p, e := proof.Make(c.l, c.d); p.Claims != 0 || len(p.Worth) != 0 || e != api.ErrRange {
			t.Errorf("Make(%v) = %v, %v", c, p, e)
		}
		if holds, e := proof.Holds(c.l, c.d, api.ClaimEqual); holds || e != api.ErrRange {
			t.Errorf("%v: Holds(ClaimEqual) = %v, %v", c, holds, e)
		}
		if a, b, e := proof.Witness(c.l, c.d, api.ClaimEqual); a != 0 || b != 0 || e != api.ErrRange {
			t.Errorf("%v: Witness(ClaimEqual) = %d, %d, %v", c, a, b, e)
		}
	}
}

// P6.2, P6.3: a part that has no ratio does not matter to the other claims.
func TestOthersWithoutParts(t *testing.T) {
	for _, c := range noParts() {
		for _, claim := range five() {
			if claim == api.ClaimEqual {
				continue
			}
			all := counterexamples(c, claim)
			if holds, e := proof.Holds(c.l, c.d, claim); holds != (len(all) == 0) || e != api.OK {
				t.Errorf("%v: Holds(%d) = %v, %v", c, claim, holds, e)
			}
			want, wantErr := pair{}, api.ErrNone
			if len(all) > 0 {
				want, wantErr = all[0], api.OK
			}
			if a, b, e := proof.Witness(c.l, c.d, claim); (pair{a, b}) != want || e != wantErr {
				t.Errorf("%v: Witness(%d) = %d, %d, %v; want %v, %v", c, claim, a, b, e, want, wantErr)
			}
		}
	}
}

// P6.3: Accept has ErrRange for a part only if the sum is one of claims, with ClaimEqual, and the worth is right; then also if another claim does not hold.
func TestAcceptNoParts(t *testing.T) {
	for _, c := range noParts() {
		worth, e := proof.Worth(c.l, c.d)
		if e != api.OK {
			t.Fatalf("Worth(%v) = %v", c, e)
		}
		var held uint8
		for _, claim := range five() {
			if claim != api.ClaimEqual && len(counterexamples(c, claim)) == 0 {
				held |= claim
			}
		}
		for i := range 256 {
			claims := uint8(i)
			want, wantErr := claims&^held == 0, api.OK
			if claims <= everything && claims&api.ClaimEqual != 0 {
				want, wantErr = false, api.ErrRange
			}
			if ok, e := proof.Accept(c.l, c.d, api.Proof{Claims: claims, Worth: worth}); ok != want || e != wantErr {
				t.Errorf("%v: Accept of the claims %d = %v, %v; want %v, %v", c, claims, ok, e, want, wantErr)
			}
			for _, wrong := range otherWorths(worth) {
				if ok, e := proof.Accept(c.l, c.d, api.Proof{Claims: claims, Worth: wrong}); ok || e != api.OK {
					t.Errorf("%v: Accept of the claims %d with the worth %v = %v, %v", c, claims, wrong, ok, e)
				}
			}
		}
	}
}

// copied returns a worth in new memory.
func copied(worth [][]api.Ratio) [][]api.Ratio {
	var l [][]api.Ratio
	for _, row := range worth {
		l = append(l, slices.Clone(row))
	}
	return l
}

// otherWorths returns what is not a worth: each element changed, and too few or too many of them, or of lists.
func otherWorths(worth [][]api.Ratio) [][][]api.Ratio {
	last := len(worth) - 1
	l := [][][]api.Ratio{nil, {}, make([][]api.Ratio, len(worth)), worth[:last], append(slices.Clone(worth), nil), append(slices.Clone(worth), worth[0])}
	change := func(i int, row []api.Ratio) {
		other := slices.Clone(worth)
		other[i] = row
		l = append(l, other)
	}
	for i, row := range worth {
		change(i, nil)
		change(i, row[:last])
		change(i, append(slices.Clone(row), r(0, 1)))
		for k, w := range row {
			// The last ones are the same number, but not its ratio, and no ratio at all.
			for _, x := range []api.Ratio{r(w.Num+1, w.Den), r(w.Num-1, w.Den), r(w.Num, w.Den+1), r(-w.Num-1, w.Den), r(2*w.Num, 2*w.Den), r(-w.Num, -w.Den), {}} {
				row := slices.Clone(row)
				row[k] = x
				change(i, row)
			}
		}
	}
	return l
}

// P6.3: a certificate with another worth is not true, whatever it claims.
func TestOtherWorths(t *testing.T) {
	for _, c := range judgements() {
		p, e := proof.Make(c.l, c.d)
		if e != api.OK {
			t.Fatalf("Make(%v) = %v", c.task, e)
		}
		for _, worth := range otherWorths(p.Worth) {
			for _, claims := range []uint8{c.claims, 0, api.ClaimEqual, everything, 255} {
				if ok, e := proof.Accept(c.l, c.d, api.Proof{Claims: claims, Worth: worth}); ok || e != api.OK {
					t.Errorf("%v: Accept of the claims %d with the worth %v = %v, %v", c.task, claims, worth, ok, e)
				}
			}
		}
	}
}

// P6.3: with the right worth a certificate is true exactly if all that it claims holds, and it claims nothing else.
func TestClaimsOfCertificates(t *testing.T) {
	for _, c := range judgements() {
		worth, e := proof.Worth(c.l, c.d)
		if e != api.OK {
			t.Fatalf("Worth(%v) = %v", c.task, e)
		}
		for claims := range 256 {
			want := uint8(claims)&^c.claims == 0
			if ok, e := proof.Accept(c.l, c.d, api.Proof{Claims: uint8(claims), Worth: copied(worth)}); ok != want || e != api.OK {
				t.Errorf("%v: Accept of the claims %d = %v, %v; want %v", c.task, claims, ok, e, want)
			}
		}
	}
}
