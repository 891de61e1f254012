package piece

import "parcener/api"

// A set of points is told by its ends, in increasing order: at the first one it begins, at the second one it stops, and so on. If their number is odd it goes on without an end.

// endsOf returns the ends of a valid piece.
func endsOf(l []api.Span) []api.Ratio {
	ends := make([]api.Ratio, 0, 2*len(l))
	for _, s := range l {
		ends = append(ends, s.From, s.To)
	}
	return ends
}

// pieceOf returns the piece with an even number of ends, or ErrMany if it has too many spans.
func pieceOf(ends []api.Ratio) ([]api.Span, api.Errno) {
	many := len(ends) / 2
	if many > api.MaxSpans {
		return nil, api.ErrMany
	}
	l := make([]api.Span, 0, many)
	for i := range many {
		l = append(l, api.Span{From: ends[2*i], To: ends[2*i+1]})
	}
	return l, api.OK
}

// sweep returns the ends of the set of all points that keep chooses by whether the sets with the ends a and b have them. What neither of them has must not be chosen.
func sweep(a, b []api.Ratio, keep func(inA, inB bool) bool) []api.Ratio {
	var ends []api.Ratio
	inA, inB, kept := false, false, false
	for len(a) > 0 || len(b) > 0 {
		p := nearest(a, b)
		// Both may change at p: only behind all changes is it known whether p is kept, so spans that touch become one.
		if len(a) > 0 && a[0] == p {
			a, inA = a[1:], !inA
		}
		if len(b) > 0 && b[0] == p {
			b, inB = b[1:], !inB
		}
		if keep(inA, inB) != kept {
			ends, kept = append(ends, p), !kept
		}
	}
	return ends
}

// nearest returns the lesser one of the first ends of a and b, of which one at least has any.
func nearest(a, b []api.Ratio) api.Ratio {
	if len(a) == 0 || len(b) > 0 && less(b[0], a[0]) {
		return b[0]
	}
	return a[0]
}

// joined returns the ends of the set of the points of valid spans, in any order.
func joined(l []api.Span) []api.Ratio {
	if len(l) < 2 {
		return endsOf(l)
	}
	// By halves, as in sorting by merging, each end is passed only a few times.
	half := len(l) / 2
	return sweep(joined(l[:half]), joined(l[half:]), either)
}

func either(inA, inB bool) bool { return inA || inB }

func both(inA, inB bool) bool { return inA && inB }

func onlyFirst(inA, inB bool) bool { return inA && !inB }
