package ratio

import (
	"math/bits"

	"parcener/api"
)

// wide is a whole number with a sign and an absolute value of 128 bits, hi * 2^64 + lo.
// The sum of two products of numbers up to MaxRatio, at most 2 * 10^36, is far from the end of it.
type wide struct {
	negative bool
	hi, lo   uint64
}

// product returns a * b.
func product(a, b int64) wide {
	hi, lo := bits.Mul64(magnitude(a), magnitude(b))
	return wide{negative: (a < 0) != (b < 0), hi: hi, lo: lo}
}

// plus returns x + y.
func plus(x, y wide) wide {
	if x.negative == y.negative {
		lo, carry := bits.Add64(x.lo, y.lo, 0)
		hi, _ := bits.Add64(x.hi, y.hi, carry)
		return wide{negative: x.negative, hi: hi, lo: lo}
	}
	if x.smaller(y) {
		x, y = y, x
	}
	lo, borrow := bits.Sub64(x.lo, y.lo, 0)
	hi, _ := bits.Sub64(x.hi, y.hi, borrow)
	return wide{negative: x.negative, hi: hi, lo: lo}
}

// smaller reports whether the absolute value of w is less than that of x.
func (w wide) smaller(x wide) bool {
	if w.hi != x.hi {
		return w.hi < x.hi
	}
	return w.lo < x.lo
}

// sign returns -1, 0 or 1.
func (w wide) sign() int {
	if w.hi == 0 && w.lo == 0 {
		return 0
	}
	if w.negative {
		return -1
	}
	return 1
}

// remainder returns what a division of the absolute value of w by d leaves, for d greater than 0.
func (w wide) remainder(d uint64) uint64 {
	return bits.Rem64(w.hi, w.lo, d)
}

// over returns w / d towards 0, for d greater than 0.
func (w wide) over(d uint64) wide {
	// The high part goes first: bits.Div64 panics if its quotient has more than 64 bits.
	lo, _ := bits.Div64(w.hi%d, w.lo, d)
	return wide{negative: w.negative, hi: w.hi / d, lo: lo}
}

// fits reports whether the absolute value of w is at most MaxRatio.
func (w wide) fits() bool {
	return w.hi == 0 && w.lo <= uint64(api.MaxRatio)
}

// value returns w as a number of 64 bits, if it fits.
func (w wide) value() int64 {
	if w.negative {
		return -int64(w.lo)
	}
	return int64(w.lo)
}

// magnitude returns the absolute value of n, also that of the least number of 64 bits.
func magnitude(n int64) uint64 {
	if n < 0 {
		return -uint64(n)
	}
	return uint64(n)
}

// gcd returns the greatest common divisor of a and b; that of a number and 0 is the number.
func gcd(a, b uint64) uint64 {
	for b != 0 {
		a, b = b, a%b
	}
	return a
}
