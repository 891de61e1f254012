package piece_test

import (
	"math/big"
	"math/rand"
	"slices"
	"testing"

	"parcener/api"
	"parcener/cake"
	"parcener/piece"
	"parcener/ratio"
)

// operation is a call with two pieces, beside the same on points.
type operation struct {
	name string
	call func(a, b []api.Span) ([]api.Span, api.Errno)
	keep func(inA, inB bool) bool
}

func operations() []operation {
	return []operation{
		{"Union", piece.Union, func(inA, inB bool) bool { return inA || inB }},
		{"Meet", piece.Meet, func(inA, inB bool) bool { return inA && inB }},
		{"Minus", piece.Minus, func(inA, inB bool) bool { return inA && !inB }},
	}
}

// P3.2: the pieces are those that looking at every interval gives, and so is ErrMany.
func TestSetsAreExact(t *testing.T) {
	for _, o := range operations() {
		told := map[api.Errno]int{}
		for _, k := range pairs() {
			want, wantErr := limited(wanted(k.a, k.b, o.keep))
			if got, e := o.call(k.a, k.b); !slices.Equal(got, want) || e != wantErr {
				t.Fatalf("%s(%v, %v) = %v, %v; want %v, %v", o.name, k.a, k.b, got, e, want, wantErr)
			}
			told[wantErr]++
		}
		if told[api.OK] < 1000 || o.name != "Minus" && told[api.ErrMany] < 10 {
			t.Errorf("%s: too few cases of one kind: %v", o.name, told)
		}
	}
}

// P3.5: a point is in the union exactly if it is in one of both, in the meet if it is in both, in a minus b if it is in a and not in b.
func TestSetsHavePoints(t *testing.T) {
	many := 0
	for _, o := range operations() {
		for _, k := range pairs() {
			if len(k.a)+len(k.b) > 20 {
				continue
			}
			l, e := o.call(k.a, k.b)
			for _, x := range points(k.a, k.b) {
				inA, e1 := piece.Has(k.a, x)
				inB, e2 := piece.Has(k.b, x)
				got, e3 := piece.Has(l, x)
				if got != o.keep(inA, inB) || e != api.OK || e1 != api.OK || e2 != api.OK || e3 != api.OK {
					t.Fatalf("%s(%v, %v) = %v, %v; it has %v: %v", o.name, k.a, k.b, l, e, x, got)
				}
				many++
			}
		}
	}
	if many < 10000 {
		t.Errorf("only %d points were looked at", many)
	}
}

// P3.1, P3.5: Make gives the valid piece with the points of the spans, in any order; that of a valid piece is itself.
func TestMakeIsExact(t *testing.T) {
	g := rand.New(rand.NewSource(6))
	for range 2500 {
		l := randomSpans(g, api.MaxSpans)
		want := wanted(l, nil, inFirst)
		for range 3 {
			got, e := piece.Make(l)
			if !slices.Equal(got, want) || e != api.OK || piece.Check(got) != api.OK {
				t.Fatalf("Make(%v) = %v, %v; want %v", l, got, e, want)
			}
			g.Shuffle(len(l), func(i, k int) { l[i], l[k] = l[k], l[i] })
		}
	}
	for _, k := range pairs() {
		if got, e := piece.Make(k.a); !slices.Equal(got, k.a) || e != api.OK {
			t.Fatalf("Make(%v) = %v, %v", k.a, got, e)
		}
	}
}

// P3.3: Has agrees with numbers of any size.
func TestHasIsExact(t *testing.T) {
	told := map[bool]int{}
	for _, k := range pairs()[:300] {
		for _, x := range points(k.a) {
			want := has(k.a, rat(x))
			if got, e := piece.Has(k.a, x); got != want || e != api.OK {
				t.Fatalf("Has(%v, %v) = %v, %v; want %v", k.a, x, got, e, want)
			}
			told[want]++
		}
	}
	if told[true] < 1000 || told[false] < 1000 {
		t.Errorf("too few cases of one kind: %v", told)
	}
}

// summed returns the sum of what measure tells of each span, from the first one on, unless one of the numbers has no ratio.
func summed(l []api.Span, measure func(s api.Span) (*big.Rat, bool)) (api.Ratio, api.Errno) {
	sum := new(big.Rat)
	for _, s := range l {
		part, ok := measure(s)
		if !ok || !fits(part) || !fits(sum.Add(sum, part)) {
			return api.Ratio{}, api.ErrRange
		}
	}
	return ratioOf(sum), api.OK
}

// P3.3: lengths are those of numbers of any size, and so are the errors.
func TestLengthIsExact(t *testing.T) {
	told := map[api.Errno]int{}
	for _, k := range pairs() {
		want, wantErr := summed(k.a, func(s api.Span) (*big.Rat, bool) { return new(big.Rat).Sub(rat(s.To), rat(s.From)), true })
		if got, e := piece.Length(k.a); got != want || e != wantErr {
			t.Fatalf("Length(%v) = %v, %v; want %v, %v", k.a, got, e, want, wantErr)
		}
		told[wantErr]++
	}
	if told[api.OK] < 500 || told[api.ErrRange] < 100 {
		t.Errorf("too few cases of one kind: %v", told)
	}
}

// randomCake returns a valid cake.
func randomCake(g *rand.Rand) api.Cake {
	c := api.Cake{Cuts: []int{0}}
	for range g.Intn(8) + 1 {
		c.Len += g.Intn(9) + 1
		c.Cuts = append(c.Cuts, c.Len)
		c.Dens = append(c.Dens, g.Intn(4)*g.Intn(5))
	}
	c.Dens[g.Intn(len(c.Dens))] = g.Intn(api.MaxDens) + 1
	return c
}

// P3.4: worths are the sums of the values, with the errors on the way; ErrArg if a span is not in the cake.
func TestWorthIsExact(t *testing.T) {
	g := rand.New(rand.NewSource(7))
	told := map[api.Errno]int{}
	for _, k := range pairs() {
		c := randomCake(g)
		want, wantErr := summed(k.a, func(s api.Span) (*big.Rat, bool) {
			v, e := cake.Value(c, s.From, s.To)
			if e != api.OK {
				return nil, false
			}
			return rat(v), true
		})
		if len(k.a) > 0 && (k.a[0].From.Num < 0 || rat(k.a[len(k.a)-1].To).Cmp(big.NewRat(int64(c.Len), 1)) > 0) {
			want, wantErr = api.Ratio{}, api.ErrArg
		}
		if got, e := piece.Worth(c, k.a); got != want || e != wantErr {
			t.Fatalf("Worth(%v, %v) = %v, %v; want %v, %v", c, k.a, got, e, want, wantErr)
		}
		told[wantErr]++
		inside, _ := piece.Meet(k.a, []api.Span{of(0, int64(c.Len))})
		if _, e := piece.Worth(c, inside); e == api.ErrArg {
			t.Fatalf("Worth(%v, %v) = %v", c, inside, e)
		}
	}
	if told[api.OK] < 100 || told[api.ErrArg] < 500 {
		t.Errorf("too few cases of one kind: %v", told)
	}
}

// sumOfBoth returns the sum of what measure tells of both pieces, and whether all of it is in range.
func sumOfBoth(measure func(l []api.Span) (api.Ratio, api.Errno), a, b []api.Span) (api.Ratio, bool) {
	x, e1 := measure(a)
	y, e2 := measure(b)
	if e1 != api.OK || e2 != api.OK {
		return api.Ratio{}, false
	}
	sum, e := ratio.Add(x, y)
	return sum, e == api.OK
}

// P3.5: the lengths of union and meet together are those of both pieces together, and so is their worth; neither depends on the order.
func TestUnionAndMeet(t *testing.T) {
	g := rand.New(rand.NewSource(8))
	lengths, worths := 0, 0
	for _, k := range pairs() {
		union, e := piece.Union(k.a, k.b)
		meet, f := piece.Meet(k.a, k.b)
		union2, e2 := piece.Union(k.b, k.a)
		meet2, f2 := piece.Meet(k.b, k.a)
		if !slices.Equal(union, union2) || !slices.Equal(meet, meet2) || e != e2 || f != f2 {
			t.Fatalf("%v, %v: %v, %v and %v, %v, but %v, %v and %v, %v", k.a, k.b, union, e, meet, f, union2, e2, meet2, f2)
		}
		if e != api.OK || f != api.OK {
			continue
		}
		if fitTogether(t, piece.Length, k, union, meet) {
			lengths++
		}
		c := randomCake(g)
		if fitTogether(t, func(l []api.Span) (api.Ratio, api.Errno) { return worthInside(c, l) }, k, union, meet) {
			worths++
		}
	}
	if lengths < 300 || worths < 300 {
		t.Errorf("only %d and %d cases were in range", lengths, worths)
	}
}

// worthInside returns what the part of a piece that is in a cake is worth.
func worthInside(c api.Cake, l []api.Span) (api.Ratio, api.Errno) {
	inside, e := piece.Meet(l, []api.Span{of(0, int64(c.Len))})
	if e != api.OK {
		return api.Ratio{}, e
	}
	return piece.Worth(c, inside)
}

// fitTogether checks that both pieces measure as much as their union and meet, unless something is out of range.
func fitTogether(t *testing.T, measure func(l []api.Span) (api.Ratio, api.Errno), k pair, union, meet []api.Span) bool {
	want, ok1 := sumOfBoth(measure, k.a, k.b)
	got, ok2 := sumOfBoth(measure, union, meet)
	if !ok1 || !ok2 {
		return false
	}
	if got != want {
		t.Fatalf("%v and %v measure %v together, but %v and %v measure %v", k.a, k.b, want, union, meet, got)
	}
	return true
}

// P3.3, P3.5: cutting gives the pieces of the points before and behind, whose union is the piece, and whose meet is empty.
func TestCutIsExact(t *testing.T) {
	for _, k := range pairs()[:200] {
		for _, at := range points(k.a) {
			left, right, e := piece.Cut(k.a, at)
			if e != api.OK || piece.Check(left) != api.OK || piece.Check(right) != api.OK {
				t.Fatalf("Cut(%v, %v) = %v, %v, %v", k.a, at, left, right, e)
			}
			if len(left) > 0 && rat(left[len(left)-1].To).Cmp(rat(at)) > 0 || len(right) > 0 && rat(right[0].From).Cmp(rat(at)) < 0 {
				t.Fatalf("Cut(%v, %v) = %v, %v", k.a, at, left, right)
			}
			union, e1 := piece.Union(left, right)
			meet, e2 := piece.Meet(left, right)
			if !slices.Equal(union, k.a) || len(meet) != 0 || e1 != api.OK || e2 != api.OK {
				t.Fatalf("Cut(%v, %v) = %v, %v, with the union %v, %v and the meet %v, %v", k.a, at, left, right, union, e1, meet, e2)
			}
		}
	}
}
