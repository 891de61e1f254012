package cake_test

import (
	"math/rand"
	"testing"

	"parcener/api"
	"parcener/cake"
	"parcener/ratio"
)

// P2.2: values are those of numbers of any size, and so are the errors.
func TestValueIsExact(t *testing.T) {
	told := map[api.Errno]int{}
	for _, q := range questions() {
		want, wantErr := wantValue(q.c, q.a, q.b)
		if got, e := cake.Value(q.c, q.a, q.b); got != want || e != wantErr {
			t.Fatalf("Value(%v, %v, %v) = %v, %v; want %v, %v", q.c, q.a, q.b, got, e, want, wantErr)
		}
		told[wantErr]++
	}
	if told[api.OK] < 1000 || told[api.ErrRange] < 1000 {
		t.Errorf("too few cases of one kind: %v", told)
	}
}

// P2.3: marks are those of numbers of any size, and so are the errors.
func TestMarkIsExact(t *testing.T) {
	told := map[api.Errno]int{}
	for _, q := range questions() {
		want, wantErr := wantMark(q.c, q.a, q.v)
		if got, e := cake.Mark(q.c, q.a, q.v); got != want || e != wantErr {
			t.Fatalf("Mark(%v, %v, %v) = %v, %v; want %v, %v", q.c, q.a, q.v, got, e, want, wantErr)
		}
		told[wantErr]++
	}
	if told[api.OK] < 1000 || told[api.ErrRange] < 1000 || told[api.ErrNone] < 1000 {
		t.Errorf("too few cases of one kind: %v", told)
	}
}

// P2.1: the total is the value of all, and the densities of all unit intervals make it up.
func TestTotalIsAll(t *testing.T) {
	for _, q := range questions()[:2000] {
		total, e := cake.Total(q.c)
		value, f := cake.Value(q.c, r(0, 1), r(int64(q.c.Len), 1))
		if value != r(int64(total), 1) || e != api.OK || f != api.OK {
			t.Fatalf("%v has the total %d, %v, and the value %v, %v", q.c, total, e, value, f)
		}
		sum := 0
		for at := range q.c.Len {
			d, _ := cake.Density(q.c, r(int64(2*at+1), 2))
			begin, _ := cake.Density(q.c, r(int64(at), 1))
			if d != begin {
				t.Fatalf("%v has the density %d at %d, but %d behind it", q.c, begin, at, d)
			}
			sum += d
		}
		if sum != total {
			t.Fatalf("%v has the total %d, but its densities sum up to %d", q.c, total, sum)
		}
		last, _ := cake.Density(q.c, r(int64(q.c.Len), 1))
		if last != q.c.Dens[len(q.c.Dens)-1] {
			t.Fatalf("%v has the density %d at its end", q.c, last)
		}
	}
}

// P2.5: the value between a and the mark for v is v, and no point before it has this.
func TestMarkGivesValue(t *testing.T) {
	many := 0
	for _, q := range questions() {
		p, e := cake.Mark(q.c, q.a, q.v)
		if e != api.OK {
			continue
		}
		if value, f := cake.Value(q.c, q.a, p); f == api.OK {
			many++
			if value != q.v {
				t.Fatalf("Mark(%v, %v, %v) = %v, with the value %v", q.c, q.a, q.v, p, value)
			}
		}
		if at, _ := ratio.Cmp(q.a, p); at > 0 {
			t.Fatalf("Mark(%v, %v, %v) = %v is before it", q.c, q.a, q.v, p)
		}
		if before, ok := between(q.a, p); ok {
			if value, f := cake.Value(q.c, q.a, before); f == api.OK && value == q.v {
				t.Fatalf("Mark(%v, %v, %v) = %v, but %v has the value too", q.c, q.a, q.v, p, before)
			}
		}
	}
	if many < 1000 {
		t.Errorf("only %d cases were in range", many)
	}
}

// between returns a point between a and p, near p, if they differ and it has a ratio.
func between(a, p api.Ratio) (api.Ratio, bool) {
	length, e := ratio.Sub(p, a)
	if e != api.OK || length.Num == 0 {
		return api.Ratio{}, false
	}
	part, e := ratio.Div(length, r(1000, 1))
	if e != api.OK {
		return api.Ratio{}, false
	}
	before, e := ratio.Sub(p, part)
	return before, e == api.OK
}

// P2.5: the mark for the value between a and b is at most b, and has the same value.
func TestValueGivesMark(t *testing.T) {
	many := 0
	for _, q := range questions() {
		value, e := cake.Value(q.c, q.a, q.b)
		if e != api.OK {
			continue
		}
		p, e := cake.Mark(q.c, q.a, value)
		if e == api.ErrRange {
			continue
		}
		many++
		order, _ := ratio.Cmp(p, q.b)
		again, f := cake.Value(q.c, q.a, p)
		if e != api.OK || f != api.OK || order > 0 || again != value {
			t.Fatalf("%v between %v and %v: value %v, mark %v, %v, with the value %v, %v", q.c, q.a, q.b, value, p, e, again, f)
		}
	}
	if many < 1000 {
		t.Errorf("only %d cases were in range", many)
	}
}

// P2.5: the value between a and c is that between a and b and that between b and c together.
func TestValuesAdd(t *testing.T) {
	g := rand.New(rand.NewSource(3))
	many := 0
	for _, q := range questions() {
		middle := randomRatio(g, q.c.Len)
		first, e1 := cake.Value(q.c, q.a, middle)
		second, e2 := cake.Value(q.c, middle, q.b)
		all, e3 := cake.Value(q.c, q.a, q.b)
		if e1 != api.OK || e2 != api.OK || e3 != api.OK {
			continue
		}
		many++
		if sum, e := ratio.Add(first, second); sum != all || e != api.OK {
			t.Fatalf("%v: %v from %v to %v, and %v to %v, but %v together", q.c, first, q.a, middle, second, q.b, all)
		}
	}
	if many < 1000 {
		t.Errorf("only %d cases were in range", many)
	}
}

// P2.4, P2.5: the normal cake is valid, has no equal neighbours, and the same densities and values; it is its own normal cake.
func TestNormalIsTheSame(t *testing.T) {
	for _, q := range questions() {
		n, e := cake.Normal(q.c)
		if e != api.OK || cake.Check(n) != api.OK || n.Len != q.c.Len {
			t.Fatalf("Normal(%v) = %v, %v", q.c, n, e)
		}
		for i := 1; i < len(n.Dens); i++ {
			if n.Dens[i] == n.Dens[i-1] {
				t.Fatalf("Normal(%v) = %v is not normal", q.c, n)
			}
		}
		if again, e := cake.Normal(n); !cake.Same(again, n) || e != api.OK {
			t.Fatalf("Normal(%v) = %v, %v", n, again, e)
		}
		before, _ := cake.Density(q.c, q.a)
		after, _ := cake.Density(n, q.a)
		if before != after {
			t.Fatalf("%v and %v have the densities %d and %d at %v", q.c, n, before, after, q.a)
		}
		one, e1 := cake.Value(q.c, q.a, q.b)
		other, e2 := cake.Value(n, q.a, q.b)
		if e1 == api.OK && e2 == api.OK && one != other {
			t.Fatalf("%v and %v have the values %v and %v from %v to %v", q.c, n, one, other, q.a, q.b)
		}
	}
}

// P2.4: a part has the densities of the cake, moved.
func TestPartIsMoved(t *testing.T) {
	g := rand.New(rand.NewSource(4))
	none := 0
	for _, q := range questions()[:5000] {
		from := g.Intn(q.c.Len)
		to := from + 1 + g.Intn(min(q.c.Len-from, 20))
		p, e := cake.Part(q.c, from, to)
		value, _ := cake.Value(q.c, r(int64(from), 1), r(int64(to), 1))
		if value.Num == 0 {
			none++
			if e != api.ErrNone || !cake.Same(p, api.Cake{}) {
				t.Fatalf("Part(%v, %d, %d) = %v, %v", q.c, from, to, p, e)
			}
			continue
		}
		if total, _ := cake.Total(p); e != api.OK || p.Len != to-from || r(int64(total), 1) != value {
			t.Fatalf("Part(%v, %d, %d) = %v, %v", q.c, from, to, p, e)
		}
		for at := range p.Len {
			one, _ := cake.Density(q.c, r(int64(2*(from+at)+1), 2))
			if other, _ := cake.Density(p, r(int64(2*at+1), 2)); one != other {
				t.Fatalf("Part(%v, %d, %d) = %v", q.c, from, to, p)
			}
		}
	}
	if none < 100 {
		t.Errorf("only %d parts were worth nothing", none)
	}
}
