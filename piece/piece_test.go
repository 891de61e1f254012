package piece_test

import (
	"math"
	"slices"
	"testing"

	"parcener/api"
	"parcener/piece"
)

// P3.1: Check tells ErrMany ahead of ErrBad, and accepts all valid pieces.
func TestCheck(t *testing.T) {
	for _, l := range [][]api.Span{
		nil, {}, {of(0, 1)}, {of(-top, top)}, {of(0, 1), of(2, 3)}, {of(-3, -2), of(-1, 0), of(1, 5)},
		{span(r(1, top), r(1, top-1))},
		{span(r(0, 1), r(1, top)), span(r(1, top-1), r(1, 1))},
		{span(r(-1, 2), r(-1, 3)), span(r(1, 3), r(1, 2))},
		spaced(api.MaxSpans, -50),
	} {
		if e := piece.Check(l); e != api.OK {
			t.Errorf("Check(%v) = %v", l, e)
		}
	}
	for _, p := range pairs() {
		if e := piece.Check(p.a); e != api.OK {
			t.Errorf("Check(%v) = %v", p.a, e)
		}
	}
	for _, f := range flaws() {
		if e := piece.Check(f.l); e != f.e {
			t.Errorf("Check(%v) = %v; want %v", f.l, e, f.e)
		}
	}
}

// P3.1: Make orders spans and joins those that have points in common, or that touch.
func TestMake(t *testing.T) {
	for _, k := range []struct{ l, want []api.Span }{
		{nil, nil},
		{[]api.Span{}, nil},
		{[]api.Span{of(2, 5), of(0, 1), of(1, 2)}, []api.Span{of(0, 5)}},
		{[]api.Span{of(2, 5), of(0, 1)}, []api.Span{of(0, 1), of(2, 5)}},
		{[]api.Span{of(0, 1), of(0, 1), of(0, 1)}, []api.Span{of(0, 1)}},
		{[]api.Span{of(0, 9), of(1, 2), of(3, 4)}, []api.Span{of(0, 9)}},
		{[]api.Span{of(3, 4), of(1, 2), of(0, 9)}, []api.Span{of(0, 9)}},
		{[]api.Span{of(0, 3), of(2, 4), of(6, 7), of(4, 5)}, []api.Span{of(0, 5), of(6, 7)}},
		{[]api.Span{of(0, 3), of(0, 2), of(0, 4)}, []api.Span{of(0, 4)}},
		{[]api.Span{of(1, 4), of(3, 4), of(2, 4)}, []api.Span{of(1, 4)}},
		{[]api.Span{of(-1, 0), of(0, top), of(-top, -2)}, []api.Span{of(-top, -2), of(-1, top)}},
		{[]api.Span{span(r(1, top-1), r(1, 1)), span(r(0, 1), r(1, top))}, []api.Span{span(r(0, 1), r(1, top)), span(r(1, top-1), r(1, 1))}},
		{[]api.Span{span(r(1, top), r(1, 1)), span(r(0, 1), r(1, top-1))}, []api.Span{of(0, 1)}},
		{slices.Concat(spaced(30, 1), spaced(30, 0)), []api.Span{of(0, 60)}},
		{slices.Concat(spaced(20, 40), spaced(20, 0), spaced(20, 80)), spaced(60, 0)},
	} {
		if got, e := piece.Make(k.l); !slices.Equal(got, k.want) || e != api.OK {
			t.Errorf("Make(%v) = %v, %v; want %v", k.l, got, e, k.want)
		}
	}
}

// P3.1: Make tells ErrMany ahead of ErrBad, and ErrBad of any span that is not valid.
func TestMakeErrors(t *testing.T) {
	for _, s := range noSpans() {
		for _, l := range [][]api.Span{
			{s}, {s, of(0, 1)}, {of(0, 1), s}, {of(0, 9), of(-9, 0), s, of(20, 30)},
			append(spaced(api.MaxSpans-1, 0), s),
		} {
			if got, e := piece.Make(l); got != nil || e != api.ErrBad {
				t.Errorf("Make(%v) = %v, %v", l, got, e)
			}
		}
		long := append(spaced(api.MaxSpans, 0), s)
		if got, e := piece.Make(long); got != nil || e != api.ErrMany {
			t.Errorf("Make(%v) = %v, %v", long, got, e)
		}
	}
	// Too many spans are too many, though one would do for all their points.
	same := slices.Repeat([]api.Span{of(0, 1)}, api.MaxSpans+1)
	if got, e := piece.Make(same); got != nil || e != api.ErrMany {
		t.Errorf("Make(%v) = %v, %v", same, got, e)
	}
	if got, e := piece.Make(same[1:]); !slices.Equal(got, same[:1]) || e != api.OK {
		t.Errorf("Make(%v) = %v, %v", same[1:], got, e)
	}
}

// P3.2: unions, meets and differences that are easily seen.
func TestSets(t *testing.T) {
	for _, k := range []struct{ a, b, union, meet, minus []api.Span }{
		{nil, nil, nil, nil, nil},
		{[]api.Span{of(0, 1)}, nil, []api.Span{of(0, 1)}, nil, []api.Span{of(0, 1)}},
		{nil, []api.Span{of(0, 1)}, []api.Span{of(0, 1)}, nil, nil},
		{[]api.Span{of(0, 1)}, []api.Span{of(0, 1)}, []api.Span{of(0, 1)}, []api.Span{of(0, 1)}, nil},
		{[]api.Span{of(0, 1)}, []api.Span{of(1, 2)}, []api.Span{of(0, 2)}, nil, []api.Span{of(0, 1)}},
		{[]api.Span{of(1, 2)}, []api.Span{of(0, 1)}, []api.Span{of(0, 2)}, nil, []api.Span{of(1, 2)}},
		{[]api.Span{of(0, 1)}, []api.Span{of(2, 3)}, []api.Span{of(0, 1), of(2, 3)}, nil, []api.Span{of(0, 1)}},
		{[]api.Span{of(2, 3)}, []api.Span{of(0, 1)}, []api.Span{of(0, 1), of(2, 3)}, nil, []api.Span{of(2, 3)}},
		{[]api.Span{of(0, 3)}, []api.Span{of(1, 2)}, []api.Span{of(0, 3)}, []api.Span{of(1, 2)}, []api.Span{of(0, 1), of(2, 3)}},
		{[]api.Span{of(1, 2)}, []api.Span{of(0, 3)}, []api.Span{of(0, 3)}, []api.Span{of(1, 2)}, nil},
		{[]api.Span{of(0, 2)}, []api.Span{of(1, 3)}, []api.Span{of(0, 3)}, []api.Span{of(1, 2)}, []api.Span{of(0, 1)}},
		{[]api.Span{of(0, 3)}, []api.Span{of(0, 1)}, []api.Span{of(0, 3)}, []api.Span{of(0, 1)}, []api.Span{of(1, 3)}},
		{[]api.Span{of(0, 3)}, []api.Span{of(2, 3)}, []api.Span{of(0, 3)}, []api.Span{of(2, 3)}, []api.Span{of(0, 2)}},
		{[]api.Span{of(0, 1), of(2, 3)}, []api.Span{of(1, 2)}, []api.Span{of(0, 3)}, nil, []api.Span{of(0, 1), of(2, 3)}},
		{[]api.Span{of(0, 2), of(3, 5)}, []api.Span{of(1, 4)}, []api.Span{of(0, 5)}, []api.Span{of(1, 2), of(3, 4)}, []api.Span{of(0, 1), of(4, 5)}},
		{[]api.Span{of(-top, top)}, []api.Span{of(-1, 1)}, []api.Span{of(-top, top)}, []api.Span{of(-1, 1)}, []api.Span{of(-top, -1), of(1, top)}},
		{
			[]api.Span{span(r(1, top), r(1, 2))}, []api.Span{span(r(1, top-1), r(1, 3))}, []api.Span{span(r(1, top), r(1, 2))},
			[]api.Span{span(r(1, top-1), r(1, 3))}, []api.Span{span(r(1, top), r(1, top-1)), span(r(1, 3), r(1, 2))},
		},
	} {
		if got, e := piece.Union(k.a, k.b); !slices.Equal(got, k.union) || e != api.OK {
			t.Errorf("Union(%v, %v) = %v, %v; want %v", k.a, k.b, got, e, k.union)
		}
		if got, e := piece.Meet(k.a, k.b); !slices.Equal(got, k.meet) || e != api.OK {
			t.Errorf("Meet(%v, %v) = %v, %v; want %v", k.a, k.b, got, e, k.meet)
		}
		if got, e := piece.Minus(k.a, k.b); !slices.Equal(got, k.minus) || e != api.OK {
			t.Errorf("Minus(%v, %v) = %v, %v; want %v", k.a, k.b, got, e, k.minus)
		}
	}
}

// bridges returns so many spans of the length 3, with gaps of the length 1, from a on: moved by 2 they go over all gaps.
func bridges(many int, a int64) []api.Span {
	var l []api.Span
	for i := range int64(many) {
		l = append(l, of(a+4*i, a+4*i+3))
	}
	return l
}

// P3.2: ErrMany if the result has more than MaxSpans spans, and only then.
func TestSetsMany(t *testing.T) {
	for _, k := range []struct {
		what string
		call func(a, b []api.Span) ([]api.Span, api.Errno)
		a, b []api.Span
		want int
		e    api.Errno
	}{
		{"60 spans apart", piece.Union, spaced(30, 0), spaced(30, 60), 60, api.OK},
		{"61 spans apart", piece.Union, spaced(30, 0), spaced(31, 60), 0, api.ErrMany},
		{"120 spans apart", piece.Union, spaced(60, 0), spaced(60, 200), 0, api.ErrMany},
		{"120 spans that touch", piece.Union, spaced(60, 0), spaced(60, 1), 1, api.OK},
		{"120 spans that touch but for four", piece.Union, spaced(60, 0), spaced(60, 5), 5, api.OK},
		{"60 spans twice", piece.Union, spaced(60, 0), spaced(60, 0), 60, api.OK},
		{"60 spans in common", piece.Meet, bridges(31, 0), bridges(30, 2), 60, api.OK},
		{"61 spans in common", piece.Meet, bridges(31, 0), bridges(31, 2), 0, api.ErrMany},
		{"119 spans in common", piece.Meet, bridges(60, 0), bridges(60, 2), 0, api.ErrMany},
		{"60 equal spans in common", piece.Meet, spaced(60, 0), spaced(60, 0), 60, api.OK},
		{"60 spans, less 59", piece.Minus, []api.Span{of(-1, 200)}, spaced(59, 0), 60, api.OK},
		{"61 spans, less 60", piece.Minus, []api.Span{of(-1, 200)}, spaced(60, 0), 0, api.ErrMany},
		{"60 spans, less 60 from the beginning on", piece.Minus, []api.Span{of(0, 200)}, spaced(60, 0), 60, api.OK},
		{"60 spans, less none", piece.Minus, spaced(60, 0), nil, 60, api.OK},
		{"60 spans, less the same", piece.Minus, spaced(60, 0), spaced(60, 0), 0, api.OK},
	} {
		if got, e := k.call(k.a, k.b); len(got) != k.want || e != k.e || e != api.OK && got != nil {
			t.Errorf("%s: %v, %v; want %d spans, %v", k.what, got, e, k.want, k.e)
		}
	}
}

// P3.3: lengths that are easily seen, of any size.
func TestLength(t *testing.T) {
	for _, k := range []struct {
		l    []api.Span
		want api.Ratio
	}{
		{nil, r(0, 1)},
		{[]api.Span{}, r(0, 1)},
		{[]api.Span{of(0, 1), of(2, 5)}, r(4, 1)},
		{[]api.Span{of(-7, -2)}, r(5, 1)},
		{[]api.Span{of(-7, 2)}, r(9, 1)},
		{[]api.Span{span(r(1, 3), r(1, 2)), span(r(2, 3), r(5, 6))}, r(1, 3)},
		{[]api.Span{of(0, top)}, r(top, 1)},
		{[]api.Span{of(-top, 0)}, r(top, 1)},
		{[]api.Span{of(-top, -top+1), of(top-1, top)}, r(2, 1)},
		{[]api.Span{span(r(0, 1), r(1, top))}, r(1, top)},
		{spaced(api.MaxSpans, 0), r(api.MaxSpans, 1)},
	} {
		if got, e := piece.Length(k.l); got != k.want || e != api.OK {
			t.Errorf("Length(%v) = %v, %v; want %v", k.l, got, e, k.want)
		}
	}
}

// p and q have a product greater than MaxRatio, so 1 / p and 1 / q have no sum.
const p, q = 1000000007, 1000000009

// P3.3: ErrRange for each number on the way, and for no other one.
func TestLengthRange(t *testing.T) {
	for _, k := range []struct {
		what string
		l    []api.Span
		want api.Ratio
		e    api.Errno
	}{
		{"the length of a span", []api.Span{span(r(1, top), r(2, 1))}, api.Ratio{}, api.ErrRange},
		{"the length of a short span", []api.Span{span(r(1, top), r(1, top-1))}, api.Ratio{}, api.ErrRange},
		{"the length of a long span", []api.Span{of(-1, top)}, api.Ratio{}, api.ErrRange},
		{"the length of the longest span", []api.Span{of(-top, top)}, api.Ratio{}, api.ErrRange},
		{"the length of the last span", []api.Span{of(-5, -3), span(r(1, top), r(2, 1))}, api.Ratio{}, api.ErrRange},
		{"the length of all", []api.Span{of(-top, -1), of(0, top)}, api.Ratio{}, api.ErrRange},
		{"the length of all is in range", []api.Span{of(-top+2, -1), of(top-3, top)}, r(top, 1), api.OK},
		{"the length of all, of fractions", []api.Span{span(r(0, 1), r(1, p)), span(r(1, 1), r(q+1, q))}, api.Ratio{}, api.ErrRange},
		{"the sum of the first ones, though that of all is in range", []api.Span{span(r(0, 1), r(1, p)), span(r(1, 1), r(q+1, q)), span(r(2*p+1, p), r(3, 1))}, api.Ratio{}, api.ErrRange},
		{"the sum of the last ones is not on the way", []api.Span{span(r(1, p), r(1, 1)), span(r(2, 1), r(2*p+1, p)), span(r(3, 1), r(3*q+1, q))}, r(q+1, q), api.OK},
	} {
		if got, e := piece.Length(k.l); got != k.want || e != k.e {
			t.Errorf("%s: Length(%v) = %v, %v; want %v, %v", k.what, k.l, got, e, k.want, k.e)
		}
	}
}

// P3.3: a span has its beginning, but not its end.
func TestHas(t *testing.T) {
	l := []api.Span{of(-3, -2), of(0, 5), span(r(11, 2), r(6, 1))}
	for _, k := range []struct {
		at   api.Ratio
		want bool
	}{
		{r(-top, 1), false}, {r(-4, 1), false}, {r(-3, 1), true}, {r(-5, 2), true}, {r(-2, 1), false}, {r(-1, 1), false},
		{r(-1, top), false}, {r(0, 1), true}, {r(1, top), true}, {r(4, 1), true}, {r(499999999999999999, 100000000000000000), true},
		{r(5, 1), false}, {r(500000000000000001, 100000000000000000), false}, {r(11, 2), true}, {r(23, 4), true}, {r(6, 1), false}, {r(top, 1), false},
	} {
		if got, e := piece.Has(l, k.at); got != k.want || e != api.OK {
			t.Errorf("Has(%v, %v) = %v, %v; want %v", l, k.at, got, e, k.want)
		}
		if got, e := piece.Has(nil, k.at); got || e != api.OK {
			t.Errorf("Has(nil, %v) = %v, %v", k.at, got, e)
		}
	}
}

// P3.3: cuts that are easily seen.
func TestCut(t *testing.T) {
	l := []api.Span{of(0, 1), of(2, 5), of(6, 8)}
	for _, k := range []struct {
		at          api.Ratio
		left, right []api.Span
	}{
		{r(3, 1), []api.Span{of(0, 1), of(2, 3)}, []api.Span{of(3, 5), of(6, 8)}},
		{r(-top, 1), nil, l},
		{r(-1, 1), nil, l},
		{r(0, 1), nil, l},
		{r(1, top), []api.Span{span(r(0, 1), r(1, top))}, []api.Span{span(r(1, top), r(1, 1)), of(2, 5), of(6, 8)}},
		{r(1, 1), l[:1], l[1:]},
		{r(3, 2), l[:1], l[1:]},
		{r(2, 1), l[:1], l[1:]},
		{r(5, 1), l[:2], l[2:]},
		{r(6, 1), l[:2], l[2:]},
		{r(13, 2), []api.Span{of(0, 1), of(2, 5), span(r(6, 1), r(13, 2))}, []api.Span{span(r(13, 2), r(8, 1))}},
		{r(8, 1), l, nil},
		{r(9, 1), l, nil},
		{r(top, 1), l, nil},
	} {
		left, right, e := piece.Cut(l, k.at)
		if !slices.Equal(left, k.left) || !slices.Equal(right, k.right) || e != api.OK {
			t.Errorf("Cut(%v, %v) = %v, %v, %v; want %v, %v", l, k.at, left, right, e, k.left, k.right)
		}
		if left, right, e := piece.Cut(nil, k.at); len(left) != 0 || len(right) != 0 || e != api.OK {
			t.Errorf("Cut(nil, %v) = %v, %v, %v", k.at, left, right, e)
		}
	}
	// A piece of as many spans as may be: one of them is cut, so both parts have it, but none is too long.
	long := bridges(api.MaxSpans, 0)
	for i := range int64(api.MaxSpans) {
		left, right, e := piece.Cut(long, r(4*i+1, 1))
		if len(left) != int(i)+1 || len(right) != api.MaxSpans-int(i) || e != api.OK {
			t.Errorf("Cut(%v, %d) = %v, %v, %v", long, 4*i+1, left, right, e)
		}
	}
}

// P3.3: ErrArg unless a ratio is valid.
func TestPointArguments(t *testing.T) {
	for _, l := range [][]api.Span{nil, {of(0, 1), of(2, 5)}, {of(-top, top)}, spaced(api.MaxSpans, 0)} {
		for _, at := range noRatios() {
			if got, e := piece.Has(l, at); got || e != api.ErrArg {
				t.Errorf("Has(%v, %v) = %v, %v", l, at, got, e)
			}
			if left, right, e := piece.Cut(l, at); left != nil || right != nil || e != api.ErrArg {
				t.Errorf("Cut(%v, %v) = %v, %v, %v", l, at, left, right, e)
			}
		}
	}
}

// P3.4: worths that are easily seen.
func TestWorth(t *testing.T) {
	for _, k := range []struct {
		l    []api.Span
		want api.Ratio
	}{
		{nil, r(0, 1)},
		{[]api.Span{}, r(0, 1)},
		{[]api.Span{of(0, 10)}, r(20, 1)},
		{[]api.Span{of(4, 6)}, r(0, 1)},
		{[]api.Span{of(1, 7)}, r(9, 1)},
		{[]api.Span{of(0, 1), of(2, 5)}, r(6, 1)},
		{[]api.Span{span(r(1, 3), r(1, 2)), span(r(13, 2), r(7, 1)), span(r(19, 2), r(10, 1))}, r(10, 3)},
		{[]api.Span{span(r(0, 1), r(1, top))}, r(1, top/2)},
	} {
		if got, e := piece.Worth(sample(), k.l); got != k.want || e != api.OK {
			t.Errorf("Worth(%v) = %v, %v; want %v", k.l, got, e, k.want)
		}
	}
	if got, e := piece.Worth(flat(api.MaxLen, api.MaxDens), []api.Span{of(0, api.MaxLen)}); got != r(12000, 1) || e != api.OK {
		t.Errorf("the worth of all is %v, %v", got, e)
	}
	if got, e := piece.Worth(flat(150, 2), spaced(api.MaxSpans, 0)); got != r(2*api.MaxSpans, 1) || e != api.OK {
		t.Errorf("the worth of %d spans is %v, %v", api.MaxSpans, got, e)
	}
}

// P3.4: ErrArg unless all spans are in the cake, ahead of ErrRange.
func TestWorthArguments(t *testing.T) {
	for _, l := range [][]api.Span{
		{of(-1, 1)}, {of(-2, -1)}, {of(9, 11)}, {of(11, 12)}, {of(10, 11)}, {of(-1, 11)}, {of(-top, top)},
		{span(r(-1, top), r(1, 1))},
		{span(r(9, 1), r(100000000000000001, 10000000000000000))},
		{of(-1, 1), of(2, 3)}, {of(-2, -1), of(2, 3)}, {of(2, 3), of(9, 11)}, {of(2, 3), of(20, 30)}, {of(1, 2), of(3, 4), of(10, 11)},
		{span(r(1, top), r(4, 1)), of(9, 11)},
		{of(-2, -1), span(r(1, top), r(4, 1))},
		{span(r(-1, top), r(4, 1))},
	} {
		if got, e := piece.Worth(sample(), l); got != (api.Ratio{}) || e != api.ErrArg {
			t.Errorf("Worth(%v) = %v, %v", l, got, e)
		}
	}
}

// P3.4: ErrRange for each number on the way, and for no other one.
func TestWorthRange(t *testing.T) {
	for _, k := range []struct {
		what string
		c    api.Cake
		l    []api.Span
		want api.Ratio
		e    api.Errno
	}{
		{"the value of a span", flat(2, 1), []api.Span{span(r(1, top), r(2, 1))}, api.Ratio{}, api.ErrRange},
		{"the value of a span is in range", flat(2, 2), []api.Span{span(r(1, top), r(1, 1))}, r(top-1, top/2), api.OK},
		{"the value of the last span", flat(9, 1), []api.Span{of(1, 2), span(r(3*p+1, p), r(4*q+1, q))}, api.Ratio{}, api.ErrRange},
		{"a length without a value", api.Cake{Len: 3, Cuts: []int{0, 2, 3}, Dens: []int{0, 5}}, []api.Span{span(r(1, top), r(3, 1))}, r(5, 1), api.OK},
		{"the worth of all", flat(3, 1), []api.Span{span(r(0, 1), r(1, p)), span(r(1, 1), r(q+1, q))}, api.Ratio{}, api.ErrRange},
		{"the sum of the first ones, though that of all is in range", flat(3, 1), []api.Span{span(r(0, 1), r(1, p)), span(r(1, 1), r(q+1, q)), span(r(2*p+1, p), r(3, 1))}, api.Ratio{}, api.ErrRange},
		{"the sum of the last ones is not on the way", flat(4, 1), []api.Span{span(r(1, p), r(1, 1)), span(r(2, 1), r(2*p+1, p)), span(r(3, 1), r(3*q+1, q))}, r(q+1, q), api.OK},
		{"the same lengths, but for one without a value", api.Cake{Len: 3, Cuts: []int{0, 1, 3}, Dens: []int{0, 1}}, []api.Span{span(r(0, 1), r(1, p)), span(r(1, 1), r(q+1, q))}, r(1, q), api.OK},
	} {
		if got, e := piece.Worth(k.c, k.l); got != k.want || e != k.e {
			t.Errorf("%s: Worth(%v, %v) = %v, %v; want %v, %v", k.what, k.c, k.l, got, e, k.want, k.e)
		}
	}
}

// P3.4: the error of the cake comes first, then that of the piece, then ErrArg.
func TestWorthOrder(t *testing.T) {
	long := flat(api.MaxLen+1, 1)
	for _, k := range []struct {
		c api.Cake
		l []api.Span
		e api.Errno
	}{
		{api.Cake{}, nil, api.ErrBad},
		{api.Cake{}, []api.Span{of(-1, 1)}, api.ErrBad},
		{api.Cake{}, spaced(api.MaxSpans+1, 0), api.ErrBad},
		{long, nil, api.ErrMany},
		{long, []api.Span{of(1, 0)}, api.ErrMany},
		{long, []api.Span{of(-1, 1)}, api.ErrMany},
		{flat(10, -1), spaced(api.MaxSpans+1, 0), api.ErrBad},
		{sample(), []api.Span{of(-1, 1), of(0, 2)}, api.ErrBad},
		{sample(), []api.Span{of(20, 30), of(5, 4)}, api.ErrBad},
		{sample(), spaced(api.MaxSpans+1, -50), api.ErrMany},
		{api.Cake{Len: math.MinInt, Cuts: []int{0, math.MinInt}, Dens: []int{1}}, []api.Span{{}}, api.ErrBad},
	} {
		if got, e := piece.Worth(k.c, k.l); got != (api.Ratio{}) || e != k.e {
			t.Errorf("Worth(%v, %v) = %v, %v; want %v", k.c, k.l, got, e, k.e)
		}
	}
}
