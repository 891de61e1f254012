package ratio_test

import (
	"testing"

	"parcener/api"
	"parcener/ratio"
)

// P1.6: sums and products do not depend on the order.
func TestOrder(t *testing.T) {
	for _, p := range pairs() {
		for _, call := range []func(a, b api.Ratio) (api.Ratio, api.Errno){ratio.Add, ratio.Mul} {
			one, e := call(p[0], p[1])
			other, f := call(p[1], p[0])
			if one != other || e != f {
				t.Fatalf("%v, %v: %v, %v and %v, %v", p[0], p[1], one, e, other, f)
			}
		}
	}
}

// P1.6: a difference added, and a quotient multiplied, give the ratio again.
func TestBack(t *testing.T) {
	for _, p := range pairs() {
		a, b := p[0], p[1]
		if d, e := ratio.Sub(a, b); e == api.OK {
			if got, f := ratio.Add(d, b); got != a || f != api.OK {
				t.Fatalf("%v - %v + the same = %v, %v", a, b, got, f)
			}
		}
		if q, e := ratio.Div(a, b); e == api.OK {
			if got, f := ratio.Mul(q, b); got != a || f != api.OK {
				t.Fatalf("%v / %v * the same = %v, %v", a, b, got, f)
			}
		}
	}
}

// P1.6: products distribute over sums, and adding the same does not change how two ratios compare.
func TestThree(t *testing.T) {
	l := pairs()
	distributed, compared := 0, 0
	for i, p := range l {
		a, b, c := p[0], p[1], l[(i*31+17)%len(l)][0]
		if i%2 == 0 {
			c = r(int64(i%19-9), 1)
		}
		if distributes(t, a, b, c) {
			distributed++
		}
		if comparesTheSame(t, a, b, c) {
			compared++
		}
	}
	if distributed < 1000 || compared < 1000 {
		t.Errorf("only %d and %d cases were in range", distributed, compared)
	}
}

// distributes checks c * (a + b) = c * a + c * b, unless something is out of range.
func distributes(t *testing.T, a, b, c api.Ratio) bool {
	sum, e1 := ratio.Add(a, b)
	x, e2 := ratio.Mul(c, a)
	y, e3 := ratio.Mul(c, b)
	if e1 != api.OK || e2 != api.OK || e3 != api.OK {
		return false
	}
	whole, e4 := ratio.Mul(c, sum)
	parts, e5 := ratio.Add(x, y)
	if whole != parts || e4 != e5 {
		t.Fatalf("%v * (%v + %v) = %v, %v, but the parts are %v, %v", c, a, b, whole, e4, parts, e5)
	}
	return e4 == api.OK
}

// comparesTheSame checks that a and b compare like a + c and b + c, unless something is out of range.
func comparesTheSame(t *testing.T, a, b, c api.Ratio) bool {
	x, e1 := ratio.Add(a, c)
	y, e2 := ratio.Add(b, c)
	if e1 != api.OK || e2 != api.OK {
		return false
	}
	before, _ := ratio.Cmp(a, b)
	if after, e := ratio.Cmp(x, y); after != before || e != api.OK {
		t.Fatalf("%v and %v compare as %d, with %v added as %d, %v", a, b, before, c, after, e)
	}
	return true
}

// P1.6: Parse of Text is the ratio.
func TestRoundTrip(t *testing.T) {
	for _, p := range pairs() {
		text, e := ratio.Text(p[1])
		got, f := ratio.Parse(text)
		if got != p[1] || e != api.OK || f != api.OK {
			t.Fatalf("%v has the text %q, %v, of %v, %v", p[1], text, e, got, f)
		}
	}
}
