package proof_test

import (
	"slices"
	"testing"

	"parcener/api"
	"parcener/piece"
	"parcener/proof"
)

// P6.1: each worth is that of numbers of any size, and the first error is that of a piece.
func TestWorthIsExact(t *testing.T) {
	told := map[api.Errno]int{}
	for _, c := range slices.Concat(tasks(), noWorth()) {
		got, e := proof.Worth(c.l, c.d)
		want, wantErr := worthOf(c)
		if !slices.EqualFunc(got, want, slices.Equal) || e != wantErr {
			t.Fatalf("Worth(%v) = %v, %v; want %v, %v", c, got, e, want, wantErr)
		}
		told[e]++
	}
	if told[api.OK] < 1000 || told[api.ErrRange] < 50 {
		t.Errorf("too few cases of one kind: %v", told)
	}
}

// worthOf returns the worth of a division, unless a piece has an error.
func worthOf(c task) ([][]api.Ratio, api.Errno) {
	worth := make([][]api.Ratio, len(c.l))
	for i, k := range c.l {
		for _, p := range c.d.Pieces {
			if _, e := piece.Worth(k, p); e != api.OK {
				return nil, e
			}
			worth[i] = append(worth[i], ratioOf(valued(k, p)))
		}
	}
	return worth, api.OK
}

// inRange returns the random divisions whose worth has ratios.
func inRange() []task {
	return slices.DeleteFunc(tasks(), func(c task) bool {
		_, e := worthOf(c)
		return e != api.OK
	})
}

// P6.2, P6.3, P6.4: a claim holds exactly if the definitions give no counterexample to it, and the witness is the first one that they give.
func TestClaimsAreExact(t *testing.T) {
	for _, claim := range five() {
		told := map[string]int{}
		for _, c := range inRange() {
			holds, e := proof.Holds(c.l, c.d, claim)
			a, b, f := proof.Witness(c.l, c.d, claim)
			all := counterexamples(c, claim)
			switch {
			case claim == api.ClaimEqual && !hasParts(c):
				told["out of range"]++
				if holds || a != 0 || b != 0 || e != api.ErrRange || f != api.ErrRange {
					t.Fatalf("%v: Holds(%d) = %v, %v; Witness = %d, %d, %v; want ErrRange", c, claim, holds, e, a, b, f)
				}
			case len(all) == 0:
				told["holds"]++
				if !holds || a != 0 || b != 0 || e != api.OK || f != api.ErrNone {
					t.Fatalf("%v: Holds(%d) = %v, %v; Witness = %d, %d, %v; want ErrNone", c, claim, holds, e, a, b, f)
				}
			default:
				told["does not hold"]++
				if holds || (pair{a, b}) != all[0] || e != api.OK || f != api.OK {
					t.Fatalf("%v: Holds(%d) = %v, %v; Witness = %d, %d, %v; want %v", c, claim, holds, e, a, b, f, all[0])
				}
			}
		}
		if told["holds"] < 300 || told["does not hold"] < 300 || claim == api.ClaimEqual && told["out of range"] < 10 {
			t.Errorf("claim %d: too few cases of one kind: %v", claim, told)
		}
	}
}

// P6.2, P6.4: the certificate has the worth and all claims that hold; it is true, and so it is with fewer claims, but not with others.
func TestCertificatesAreTrue(t *testing.T) {
	out := 0
	for _, c := range inRange() {
		p, e := proof.Make(c.l, c.d)
		if !hasParts(c) {
			out++
			if p.Claims != 0 || len(p.Worth) != 0 || e != api.ErrRange {
				t.Fatalf("Make(%v) = %v, %v", c, p, e)
			}
			continue
		}
		var held uint8
		for _, claim := range five() {
			if len(counterexamples(c, claim)) == 0 {
				held += claim
			}
		}
		worth, _ := worthOf(c)
		if p.Claims != held || !slices.EqualFunc(p.Worth, worth, slices.Equal) || e != api.OK {
			t.Fatalf("Make(%v) = %v, %v; want %d, %v", c, p, e, held, worth)
		}
		for claims := range 40 {
			want := uint8(claims)&^held == 0
			if ok, e := proof.Accept(c.l, c.d, api.Proof{Claims: uint8(claims), Worth: p.Worth}); ok != want || e != api.OK {
				t.Fatalf("%v: Accept of the claims %d = %v, %v; want %v", c, claims, ok, e, want)
			}
		}
	}
	if out < 10 {
		t.Errorf("only %d cases were out of range", out)
	}
}

// P6.4: a certificate with another worth is not true.
func TestOtherWorthsAreNot(t *testing.T) {
	for _, c := range inRange()[:200] {
		worth, _ := worthOf(c)
		for _, other := range otherWorths(worth) {
			if ok, e := proof.Accept(c.l, c.d, api.Proof{Worth: other}); ok || e != api.OK {
				t.Fatalf("%v: Accept with the worth %v = %v, %v", c, other, ok, e)
			}
		}
	}
}

// P6.4: what is whole and without envy gives each agent its share; two agents with their shares of what is whole have no envy.
func TestClaimsFitTogether(t *testing.T) {
	all, two := 0, 0
	for _, c := range inRange() {
		holds := func(claim uint8) bool {
			ok, e := proof.Holds(c.l, c.d, claim)
			if e != api.OK {
				t.Fatalf("%v: Holds(%d) = %v", c, claim, e)
			}
			return ok
		}
		whole, share, envy := holds(api.ClaimWhole), holds(api.ClaimShare), holds(api.ClaimEnvy)
		if whole && envy {
			all++
			if !share {
				t.Fatalf("%v: whole and without envy, but not of proportional shares", c)
			}
		}
		if whole && share && len(c.l) == 2 {
			two++
			if !envy {
				t.Fatalf("%v: two agents with their shares, but with envy", c)
			}
		}
	}
	if all < 200 || two < 100 {
		t.Errorf("too few cases of one kind: %d, %d", all, two)
	}
}
