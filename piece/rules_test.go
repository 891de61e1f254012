package piece_test

import (
	"slices"
	"testing"

	"parcener/api"
	"parcener/piece"
)

// R1: the error of an invalid piece comes first, whatever the other arguments are, and with it all else is zero.
func TestInvalidPiece(t *testing.T) {
	for _, f := range flaws() {
		if got, e := piece.Length(f.l); got != (api.Ratio{}) || e != f.e {
			t.Errorf("Length(%v) = %v, %v", f.l, got, e)
		}
		for _, c := range []api.Cake{sample(), flat(1000, 1)} {
			if got, e := piece.Worth(c, f.l); got != (api.Ratio{}) || e != f.e {
				t.Errorf("Worth(%v, %v) = %v, %v", c, f.l, got, e)
			}
		}
		for _, at := range append(noRatios(), r(0, 1), r(1, 2), r(-top, 1)) {
			if got, e := piece.Has(f.l, at); got || e != f.e {
				t.Errorf("Has(%v, %v) = %v, %v", f.l, at, got, e)
			}
			if left, right, e := piece.Cut(f.l, at); left != nil || right != nil || e != f.e {
				t.Errorf("Cut(%v, %v) = %v, %v, %v", f.l, at, left, right, e)
			}
		}
	}
}

// R1: of two invalid pieces the error of the first one is told.
func TestInvalidPieces(t *testing.T) {
	for _, o := range operations() {
		for _, f := range flaws() {
			for _, valid := range [][]api.Span{nil, {of(0, 1)}, spaced(api.MaxSpans, 0)} {
				if got, e := o.call(f.l, valid); got != nil || e != f.e {
					t.Errorf("%s(%v, %v) = %v, %v", o.name, f.l, valid, got, e)
				}
				if got, e := o.call(valid, f.l); got != nil || e != f.e {
					t.Errorf("%s(%v, %v) = %v, %v", o.name, valid, f.l, got, e)
				}
			}
			for _, other := range flaws() {
				if got, e := o.call(f.l, other.l); got != nil || e != f.e {
					t.Errorf("%s(%v, %v) = %v, %v", o.name, f.l, other.l, got, e)
				}
			}
		}
	}
}

// filler is what lies in memory behind the end of a list.
var filler = []api.Span{of(-91, 92), of(93, 94), of(95, -96)}

// roomy returns a copy of a list that has memory behind its end, and all of that memory.
func roomy(l []api.Span) (list, memory []api.Span) {
	memory = slices.Concat(l, filler)
	return memory[:len(l)], memory
}

// spoil writes over all the memory of a list, also behind its end.
func spoil(l []api.Span) {
	l = l[:cap(l)]
	for i := range l {
		l[i] = of(-7, -8)
	}
}

// listCall is a call with two pieces whose results are lists.
type listCall struct {
	name string
	call func(a, b []api.Span) [][]api.Span
}

func listCalls() []listCall {
	l := []listCall{
		{"Make", func(a, b []api.Span) [][]api.Span { got, _ := piece.Make(a); return [][]api.Span{got} }},
		{"Cut before all", func(a, b []api.Span) [][]api.Span { x, y, _ := piece.Cut(a, r(-top, 1)); return [][]api.Span{x, y} }},
		{"Cut behind all", func(a, b []api.Span) [][]api.Span { x, y, _ := piece.Cut(a, r(top, 1)); return [][]api.Span{x, y} }},
		{"Cut in a span", func(a, b []api.Span) [][]api.Span { x, y, _ := piece.Cut(a, r(5, 2)); return [][]api.Span{x, y} }},
		{"Cut in a gap", func(a, b []api.Span) [][]api.Span { x, y, _ := piece.Cut(a, r(3, 2)); return [][]api.Span{x, y} }},
	}
	for _, o := range operations() {
		l = append(l, listCall{o.name, func(a, b []api.Span) [][]api.Span { got, _ := o.call(a, b); return [][]api.Span{got} }})
	}
	return l
}

// samples returns pairs of pieces of which one is kept as it is by some calls.
func samples() []pair {
	three := []api.Span{of(0, 1), of(2, 5), of(6, 8)}
	return []pair{
		{three, nil}, {nil, three}, {three, three}, {three, []api.Span{of(0, 8)}}, {[]api.Span{of(0, 8)}, three},
		{three, []api.Span{of(20, 30)}}, {three, []api.Span{of(4, 7), of(8, 9)}}, {spaced(api.MaxSpans, 0), spaced(api.MaxSpans, 1)}, {[]api.Span{of(2, 3)}, nil},
	}
}

// R2: no call changes its arguments, also behind their ends.
func TestOnlyRead(t *testing.T) {
	for _, k := range samples() {
		a, memoryA := roomy(k.a)
		b, memoryB := roomy(k.b)
		for _, c := range listCalls() {
			c.call(a, b)
		}
		piece.Check(a)
		piece.Length(a)
		piece.Has(a, r(2, 1))
		piece.Worth(flat(1000, 1), a)
		if !slices.Equal(memoryA, slices.Concat(k.a, filler)) || !slices.Equal(memoryB, slices.Concat(k.b, filler)) {
			t.Errorf("%v became %v, %v became %v", k.a, memoryA, k.b, memoryB)
		}
	}
	// Make sorts: its argument stays in its order.
	mixed, memory := roomy([]api.Span{of(2, 5), of(6, 7), of(0, 1), of(1, 2)})
	before := slices.Clone(memory)
	piece.Make(mixed)
	if !slices.Equal(memory, before) {
		t.Errorf("%v became %v", before, memory)
	}
	c, cuts, dens := sample(), sample().Cuts, sample().Dens
	piece.Worth(c, []api.Span{of(1, 7)})
	if c.Len != 10 || !slices.Equal(c.Cuts, cuts) || !slices.Equal(c.Dens, dens) {
		t.Errorf("the cake became %v", c)
	}
}

// R2: results share no memory with arguments, with results of other calls, nor with each other.
func TestOwnMemory(t *testing.T) {
	for _, k := range samples() {
		for _, c := range listCalls() {
			a, memoryA := roomy(k.a)
			b, memoryB := roomy(k.b)
			for spoiled := range c.call(a, b) {
				got, again := c.call(a, b), c.call(a, b)
				kept := slices.Clone(again[spoiled])
				if !slices.Equal(got[spoiled], kept) {
					t.Errorf("%s of %v is %v, and then %v", c.name, k, got, again)
				}
				spoil(got[spoiled])
				for i := range got {
					if i != spoiled && !slices.Equal(got[i], again[i]) {
						t.Errorf("the results of %s of %v share memory", c.name, k)
					}
				}
				if !slices.Equal(again[spoiled], kept) {
					t.Errorf("the results of two calls of %s of %v share memory", c.name, k)
				}
			}
			if !slices.Equal(memoryA, slices.Concat(k.a, filler)) || !slices.Equal(memoryB, slices.Concat(k.b, filler)) {
				t.Errorf("%s of %v shares memory with its arguments", c.name, k)
			}
		}
	}
}
