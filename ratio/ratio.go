// Package ratio is layer 1: exact fractions in lowest terms (see shared/doc/01-ratio.md).
package ratio

import (
	"strconv"
	"strings"

	"parcener/api"
)

// maxSum is how many ratios a list has at most for Sum.
const maxSum = 100

// Check returns ErrBad unless a is valid: in lowest terms, with both numbers in their ranges.
func Check(a api.Ratio) api.Errno {
	if a.Den < 1 || a.Den > api.MaxRatio || a.Num < -api.MaxRatio || a.Num > api.MaxRatio {
		return api.ErrBad
	}
	if gcd(magnitude(a.Num), magnitude(a.Den)) != 1 {
		return api.ErrBad
	}
	return api.OK
}

// Make returns the ratio of num / den: ErrZero if den is 0, ErrRange if there is none.
func Make(num, den int64) (api.Ratio, api.Errno) {
	if den == 0 {
		return api.Ratio{}, api.ErrZero
	}
	n, d := magnitude(num), magnitude(den)
	g := gcd(n, d)
	return lowest(wide{negative: (num < 0) != (den < 0), lo: n / g}, wide{lo: d / g})
}

// Add returns the ratio of a + b, or ErrRange if there is none.
func Add(a, b api.Ratio) (api.Ratio, api.Errno) {
	if e := checkBoth(a, b); e != api.OK {
		return api.Ratio{}, e
	}
	return add(a, b)
}

// Sub returns the ratio of a - b, or ErrRange if there is none.
func Sub(a, b api.Ratio) (api.Ratio, api.Errno) {
	if e := checkBoth(a, b); e != api.OK {
		return api.Ratio{}, e
	}
	return add(a, opposite(b))
}

// Mul returns the ratio of a * b, or ErrRange if there is none.
func Mul(a, b api.Ratio) (api.Ratio, api.Errno) {
	if e := checkBoth(a, b); e != api.OK {
		return api.Ratio{}, e
	}
	return multiply(a, b)
}

// Div returns the ratio of a / b: ErrZero if b is 0, ErrRange if there is none.
func Div(a, b api.Ratio) (api.Ratio, api.Errno) {
	if e := checkBoth(a, b); e != api.OK {
		return api.Ratio{}, e
	}
	if b.Num == 0 {
		return api.Ratio{}, api.ErrZero
	}
	return multiply(a, inverse(b))
}

// Cmp returns -1 if a is less than b, 1 if it is greater, and 0 if both are equal.
func Cmp(a, b api.Ratio) (int, api.Errno) {
	if e := checkBoth(a, b); e != api.OK {
		return 0, e
	}
	difference := plus(product(a.Num, b.Den), product(-b.Num, a.Den))
	return difference.sign(), api.OK
}

// Sum adds the ratios of l from the first one on: ErrMany if there are too many, ErrRange if a sum on the way has no ratio.
func Sum(l []api.Ratio) (api.Ratio, api.Errno) {
	if len(l) > maxSum {
		return api.Ratio{}, api.ErrMany
	}
	for _, a := range l {
		if e := Check(a); e != api.OK {
			return api.Ratio{}, e
		}
	}
	total := api.Ratio{Num: 0, Den: 1}
	for _, a := range l {
		next, e := add(total, a)
		if e != api.OK {
			return api.Ratio{}, e
		}
		total = next
	}
	return total, api.OK
}

// Floor returns the greatest integer that is not greater than a.
func Floor(a api.Ratio) (int64, api.Errno) {
	if e := Check(a); e != api.OK {
		return 0, e
	}
	floor := a.Num / a.Den
	// Go's division goes towards 0, which is upwards for a negative number.
	if a.Num%a.Den < 0 {
		floor--
	}
	return floor, api.OK
}

// Text returns the text of a.
func Text(a api.Ratio) (string, api.Errno) {
	if e := Check(a); e != api.OK {
		return "", e
	}
	text := strconv.FormatInt(a.Num, 10)
	if a.Den != 1 {
		text += "/" + strconv.FormatInt(a.Den, 10)
	}
	return text, api.OK
}

// Parse returns the valid ratio with the text s, or ErrForm if there is none.
func Parse(s string) (api.Ratio, api.Errno) {
	top, bottom, fraction := strings.Cut(s, "/")
	if !fraction {
		bottom = "1"
	}
	num, numErr := strconv.ParseInt(top, 10, 64)
	den, denErr := strconv.ParseInt(bottom, 10, 64)
	if numErr != nil || denErr != nil {
		return api.Ratio{}, api.ErrForm
	}
	a := api.Ratio{Num: num, Den: den}
	// ParseInt also reads other forms ("+1", "-0", "01", "3/1"): only the one that Text gives is accepted.
	text, e := Text(a)
	if e != api.OK || text != s {
		return api.Ratio{}, api.ErrForm
	}
	return a, api.OK
}

// checkBoth returns the error of Check for a, or else for b.
func checkBoth(a, b api.Ratio) api.Errno {
	if e := Check(a); e != api.OK {
		return e
	}
	return Check(b)
}

// add returns the ratio of a + b, which are valid.
func add(a, b api.Ratio) (api.Ratio, api.Errno) {
	common := gcd(magnitude(a.Den), magnitude(b.Den))
	restA, restB := a.Den/int64(common), b.Den/int64(common)
	num := plus(product(a.Num, restB), product(b.Num, restA))
	// a and b are in lowest terms, so restA and restB have no divisor in common with num: only one of common can be cancelled.
	cancel := gcd(common, num.remainder(common))
	den := product(restA, b.Den/int64(cancel))
	return lowest(num.over(cancel), den)
}

// multiply returns the ratio of a * b, which are valid.
func multiply(a, b api.Ratio) (api.Ratio, api.Errno) {
	// With common divisors cancelled crosswise the products are in lowest terms.
	across := int64(gcd(magnitude(a.Num), magnitude(b.Den)))
	back := int64(gcd(magnitude(b.Num), magnitude(a.Den)))
	num := product(a.Num/across, b.Num/back)
	den := product(a.Den/back, b.Den/across)
	return lowest(num, den)
}

// opposite returns -a, which is valid if a is.
func opposite(a api.Ratio) api.Ratio {
	return api.Ratio{Num: -a.Num, Den: a.Den}
}

// inverse returns 1 / a, which is valid if a is, and is not 0.
func inverse(a api.Ratio) api.Ratio {
	if a.Num < 0 {
		return api.Ratio{Num: -a.Den, Den: -a.Num}
	}
	return api.Ratio{Num: a.Den, Den: a.Num}
}

// lowest returns num / den, which have no common divisor, or ErrRange if one of them is too great for a ratio.
func lowest(num, den wide) (api.Ratio, api.Errno) {
	if !num.fits() || !den.fits() {
		return api.Ratio{}, api.ErrRange
	}
	return api.Ratio{Num: num.value(), Den: den.value()}, api.OK
}
