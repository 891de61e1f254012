package cake

import (
	"iter"

	"parcener/api"
	"parcener/ratio"
)

// stretch is what an interval of one density, greater than 0, has in common with what is looked at: where it begins, and its value.
type stretch struct {
	begin, worth api.Ratio
	density      int
}

// stretches yields the stretches between the points a and b from the left to the right, and ErrRange in place of the first one whose length or value has no ratio.
func stretches(c api.Cake, a, b api.Ratio) iter.Seq2[stretch, api.Errno] {
	return func(yield func(stretch, api.Errno) bool) {
		for i := range len(c.Dens) {
			begin, end := greater(a, whole(c.Cuts[i])), lesser(b, whole(c.Cuts[i+1]))
			// What is worth nothing counts for no error either: its length is not asked for.
			if c.Dens[i] == 0 || !less(begin, end) {
				continue
			}
			s, e := measure(begin, end, c.Dens[i])
			if !yield(s, e) || e != api.OK {
				return
			}
		}
	}
}

// measure returns the stretch of a density between two points, or ErrRange.
func measure(begin, end api.Ratio, density int) (stretch, api.Errno) {
	length, e := ratio.Sub(end, begin)
	if e != api.OK {
		return stretch{}, e
	}
	worth, e := ratio.Mul(length, whole(density))
	if e != api.OK {
		return stretch{}, e
	}
	return stretch{begin: begin, worth: worth, density: density}, api.OK
}

// reach returns the point up to which s has the value v, or ErrRange.
func (s stretch) reach(v api.Ratio) (api.Ratio, api.Errno) {
	length, e := ratio.Div(v, whole(s.density))
	if e != api.OK {
		return api.Ratio{}, e
	}
	return ratio.Add(s.begin, length)
}

// whole returns the ratio of n, which is at most MaxRatio.
func whole(n int) api.Ratio { return api.Ratio{Num: int64(n), Den: 1} }

// isPoint reports whether p is a point of c.
func isPoint(c api.Cake, p api.Ratio) bool {
	return ratio.Check(p) == api.OK && p.Num >= 0 && !less(whole(c.Len), p)
}

// less reports whether a is less than b, which are valid.
func less(a, b api.Ratio) bool {
	order, e := ratio.Cmp(a, b)
	return e == api.OK && order < 0
}

// lesser returns the lesser one of both.
func lesser(a, b api.Ratio) api.Ratio {
	if less(b, a) {
		return b
	}
	return a
}

// greater returns the greater one of both.
func greater(a, b api.Ratio) api.Ratio {
	if less(a, b) {
		return b
	}
	return a
}
