package ratio_test

import (
	"math"
	"math/big"
	"slices"
	"testing"

	"parcener/api"
	"parcener/ratio"
)

// P1.1: Check returns ErrBad if a ratio is not valid.
func TestCheck(t *testing.T) {
	for _, a := range edges() {
		if e := ratio.Check(a); e != api.OK {
			t.Errorf("Check(%v) = %v", a, e)
		}
	}
	for _, a := range invalid() {
		if e := ratio.Check(a); e != api.ErrBad {
			t.Errorf("Check(%v) = %v", a, e)
		}
	}
}

// P1.1: the numbers of which Make is asked, for which the answer is easily seen.
func TestMake(t *testing.T) {
	const least, most = math.MinInt64, math.MaxInt64
	for _, c := range []struct {
		num, den int64
		want     api.Ratio
		e        api.Errno
	}{
		{6, -4, r(-3, 2), api.OK},
		{-6, -4, r(3, 2), api.OK},
		{-6, 4, r(-3, 2), api.OK},
		{0, 5, r(0, 1), api.OK},
		{0, -5, r(0, 1), api.OK},
		{0, least, r(0, 1), api.OK},
		{0, most, r(0, 1), api.OK},
		{0, 0, api.Ratio{}, api.ErrZero},
		{1, 0, api.Ratio{}, api.ErrZero},
		{least, 0, api.Ratio{}, api.ErrZero},
		{top, 1, r(top, 1), api.OK},
		{-top, 1, r(-top, 1), api.OK},
		{top, -1, r(-top, 1), api.OK},
		{1, top, r(1, top), api.OK},
		{1, -top, r(-1, top), api.OK},
		{top, top, r(1, 1), api.OK},
		{top + 1, 1, api.Ratio{}, api.ErrRange},
		{-top - 1, 1, api.Ratio{}, api.ErrRange},
		{1, top + 1, api.Ratio{}, api.ErrRange},
		{1, -top - 1, api.Ratio{}, api.ErrRange},
		{2 * top, 2, r(top, 1), api.OK},
		{2 * top, 4, r(top/2, 1), api.OK},
		{-2, 2 * top, r(-1, top), api.OK},
		{2*top + 2, 2, api.Ratio{}, api.ErrRange},
		{least, least, r(1, 1), api.OK},
		{least, most, api.Ratio{}, api.ErrRange},
		{most, least, api.Ratio{}, api.ErrRange},
		{most, most, r(1, 1), api.OK},
		{most, -most, r(-1, 1), api.OK},
		{least, 1, api.Ratio{}, api.ErrRange},
		{least, -1, api.Ratio{}, api.ErrRange},
		{1, least, api.Ratio{}, api.ErrRange},
		{least, 16, r(-1<<59, 1), api.OK},
		{least, -16, r(1<<59, 1), api.OK},
		{least, 8, api.Ratio{}, api.ErrRange},
		{16, least, r(-1, 1<<59), api.OK},
		{-16, least, r(1, 1<<59), api.OK},
		{1 << 62, least, r(-1, 2), api.OK},
		{least, 1 << 62, r(-2, 1), api.OK},
		{most, 7, api.Ratio{}, api.ErrRange},
		{most, 49, r(188232082384791343, 1), api.OK},
	} {
		if got, e := ratio.Make(c.num, c.den); got != c.want || e != c.e {
			t.Errorf("Make(%d, %d) = %v, %v; want %v, %v", c.num, c.den, got, e, c.want, c.e)
		}
	}
}

// P1.1: any two numbers of 64 bits, compared with numbers of any size.
func TestMakeOfAny(t *testing.T) {
	numbers := []int64{0, 1, 2, 7, 10, 16, 49, 1 << 32, 3037000500, 1 << 59, top - 1, top, top + 1, 2 * top, 1 << 62, 9 * top, math.MaxInt64 - 1, math.MaxInt64, math.MinInt64}
	for _, n := range numbers {
		numbers = append(numbers, -n)
	}
	for _, num := range numbers {
		for _, den := range numbers {
			want, wantErr := api.Ratio{}, api.ErrZero
			if den != 0 {
				want, wantErr = valid(new(big.Rat).SetFrac(big.NewInt(num), big.NewInt(den)))
			}
			if got, e := ratio.Make(num, den); got != want || e != wantErr {
				t.Errorf("Make(%d, %d) = %v, %v; want %v, %v", num, den, got, e, want, wantErr)
			}
		}
	}
}

// P1.2: cases that the chapter names.
func TestOperationsByHand(t *testing.T) {
	none := api.Ratio{}
	for _, c := range []struct {
		name       string
		a, b, want api.Ratio
		e          api.Errno
	}{
		{"Add", r(1, 2), r(1, 3), r(5, 6), api.OK},
		{"Sub", r(1, 2), r(1, 3), r(1, 6), api.OK},
		{"Mul", r(top, 7), r(7, top), r(1, 1), api.OK},
		{"Add", r(1, top), r(1, top-1), none, api.ErrRange},
		// In range although what lies between is not.
		{"Add", r(1, top), r(top-1, top), r(1, 1), api.OK},
		{"Add", r(-1, top), r(-top+1, top), r(-1, 1), api.OK},
		{"Add", r(1, top), r(-1, top), r(0, 1), api.OK},
		{"Add", r(top-1, top), r(top-1, top), r(top-1, top/2), api.OK},
		{"Sub", r(top-1, top), r(-1, top), r(1, 1), api.OK},
		{"Sub", r(1, top), r(1, top), r(0, 1), api.OK},
		{"Mul", r(top-1, top), r(top, top-1), r(1, 1), api.OK},
		{"Mul", r(-1, top), r(top, 1), r(-1, 1), api.OK},
		{"Mul", r(0, 1), r(1, top), r(0, 1), api.OK},
		{"Mul", r(-top, 1), r(0, 1), r(0, 1), api.OK},
		{"Div", r(top, 7), r(top, 7), r(1, 1), api.OK},
		{"Div", r(-1, top), r(1, top), r(-1, 1), api.OK},
		{"Div", r(top-1, top), r(-top+1, top), r(-1, 1), api.OK},
		{"Div", r(0, 1), r(-1, top), r(0, 1), api.OK},
		// At the ends of MaxRatio.
		{"Add", r(top-1, 1), r(1, 1), r(top, 1), api.OK},
		{"Add", r(top, 1), r(1, 1), none, api.ErrRange},
		{"Add", r(-top, 1), r(-1, 1), none, api.ErrRange},
		{"Add", r(top, 1), r(top, 1), none, api.ErrRange},
		{"Add", r(top, 1), r(1, top), none, api.ErrRange},
		{"Sub", r(-top, 1), r(1, 1), none, api.ErrRange},
		{"Sub", r(-top, 1), r(-top, 1), r(0, 1), api.OK},
		{"Mul", r(1000000000, 1), r(1000000000, 1), r(top, 1), api.OK},
		{"Mul", r(1, 1000000000), r(-1, 1000000000), r(-1, top), api.OK},
		{"Mul", r(1000000000, 1), r(1000000001, 1), none, api.ErrRange},
		{"Mul", r(1, 1000000000), r(1, 1000000001), none, api.ErrRange},
		{"Mul", r(top, 1), r(top, 1), none, api.ErrRange},
		{"Div", r(top, 1), r(1, 2), none, api.ErrRange},
		{"Div", r(1, top), r(2, 1), none, api.ErrRange},
		{"Div", r(1, 1), r(-top, 1), r(-1, top), api.OK},
		// ErrZero, also where the other one is 0.
		{"Div", r(1, 2), r(0, 1), none, api.ErrZero},
		{"Div", r(0, 1), r(0, 1), none, api.ErrZero},
		{"Div", r(-top, 1), r(0, 1), none, api.ErrZero},
	} {
		for _, o := range binaries() {
			if o.name != c.name {
				continue
			}
			if got, e := o.call(c.a, c.b); got != c.want || e != c.e {
				t.Errorf("%s(%v, %v) = %v, %v; want %v, %v", c.name, c.a, c.b, got, e, c.want, c.e)
			}
		}
	}
}

// P1.2: all operations are those of exact numbers; results are valid.
func TestOperations(t *testing.T) {
	for _, p := range pairs() {
		for _, o := range binaries() {
			want, wantErr := o.want(p[0], p[1])
			got, e := o.call(p[0], p[1])
			if got != want || e != wantErr {
				t.Fatalf("%s(%v, %v) = %v, %v; want %v, %v", o.name, p[0], p[1], got, e, want, wantErr)
			}
		}
	}
}

// P1.3: Cmp tells which of two ratios is greater.
func TestCmp(t *testing.T) {
	for _, c := range []struct {
		a, b api.Ratio
		want int
	}{
		{r(1, top), r(1, top-1), -1},
		{r(top-1, top), r(top-2, top-1), 1},
		{r(-top+1, top), r(-top+2, top-1), -1},
		{r(-top, 1), r(top, 1), -1},
		{r(top, 1), r(-top, 1), 1},
		{r(0, 1), r(0, 1), 0},
		{r(0, 1), r(-1, top), 1},
		{r(0, 1), r(1, top), -1},
		{r(-1, top), r(-1, top), 0},
	} {
		if got, e := ratio.Cmp(c.a, c.b); got != c.want || e != api.OK {
			t.Errorf("Cmp(%v, %v) = %d, %v", c.a, c.b, got, e)
		}
	}
	for _, p := range pairs() {
		want := exact(p[0]).Cmp(exact(p[1]))
		if got, e := ratio.Cmp(p[0], p[1]); got != want || e != api.OK {
			t.Fatalf("Cmp(%v, %v) = %d, %v; want %d", p[0], p[1], got, e, want)
		}
	}
}

// P1.3: Floor returns the greatest integer that is not greater.
func TestFloor(t *testing.T) {
	for _, c := range []struct {
		a    api.Ratio
		want int64
	}{
		{r(-3, 2), -2}, {r(3, 2), 1}, {r(-1, 2), -1}, {r(1, 2), 0}, {r(0, 1), 0}, {r(-4, 1), -4},
		{r(top, 1), top}, {r(-top, 1), -top}, {r(top-1, top), 0}, {r(-top+1, top), -1},
		{r(-top, top-1), -2}, {r(top, top-1), 1}, {r(-top, 3), -333333333333333334},
	} {
		if got, e := ratio.Floor(c.a); got != c.want || e != api.OK {
			t.Errorf("Floor(%v) = %d, %v", c.a, got, e)
		}
	}
	for _, p := range pairs() {
		below, e := ratio.Floor(p[0])
		x := exact(p[0])
		if e != api.OK || x.Cmp(exact(r(below, 1))) < 0 || x.Cmp(exact(r(below+1, 1))) >= 0 {
			t.Fatalf("Floor(%v) = %d, %v", p[0], below, e)
		}
	}
}

// P1.4: Sum adds from the first one on.
func TestSum(t *testing.T) {
	for _, c := range []struct {
		l    []api.Ratio
		want api.Ratio
		e    api.Errno
	}{
		{nil, r(0, 1), api.OK},
		{[]api.Ratio{}, r(0, 1), api.OK},
		{[]api.Ratio{r(-3, 2)}, r(-3, 2), api.OK},
		{[]api.Ratio{r(1, 2), r(1, 3), r(1, 6)}, r(1, 1), api.OK},
		{[]api.Ratio{r(top, 1), r(-1, 1), r(1, 1)}, r(top, 1), api.OK},
		// The sum of all would be in range, but one on the way is not.
		{[]api.Ratio{r(top, 1), r(1, 1), r(-1, 1)}, api.Ratio{}, api.ErrRange},
		{[]api.Ratio{r(1, top), r(1, top-1), r(-1, top)}, api.Ratio{}, api.ErrRange},
		{[]api.Ratio{r(1, top), r(-1, top), r(1, top-1)}, r(1, top-1), api.OK},
		// An invalid one is told first, wherever it is.
		{[]api.Ratio{r(top, 1), r(1, 1), r(2, 4)}, api.Ratio{}, api.ErrBad},
		{[]api.Ratio{{}}, api.Ratio{}, api.ErrBad},
		{slices.Repeat([]api.Ratio{r(1, 100)}, 100), r(1, 1), api.OK},
		{slices.Repeat([]api.Ratio{r(1, 100)}, 101), api.Ratio{}, api.ErrMany},
		{slices.Repeat([]api.Ratio{r(top, 1)}, 101), api.Ratio{}, api.ErrMany},
		{slices.Repeat([]api.Ratio{{}}, 101), api.Ratio{}, api.ErrMany},
		{slices.Repeat([]api.Ratio{{}}, 100), api.Ratio{}, api.ErrBad},
	} {
		if got, e := ratio.Sum(c.l); got != c.want || e != c.e {
			t.Errorf("Sum(%v) = %v, %v; want %v, %v", c.l, got, e, c.want, c.e)
		}
	}
}

// P1.4: the sum is that of one Add after the other.
func TestSumIsAdd(t *testing.T) {
	var l []api.Ratio
	for _, p := range pairs()[:3000] {
		l = append(l, p[1])
	}
	for from := 0; from+100 <= len(l); from += 7 {
		many := from % 101
		part := l[from : from+many]
		want, wantErr := r(0, 1), api.OK
		for _, a := range part {
			if want, wantErr = ratio.Add(want, a); wantErr != api.OK {
				break
			}
		}
		if got, e := ratio.Sum(part); got != want || e != wantErr {
			t.Fatalf("Sum(%v) = %v, %v; want %v, %v", part, got, e, want, wantErr)
		}
	}
}

// P1.5: texts of ratios, both ways.
func TestText(t *testing.T) {
	for _, c := range []struct {
		a    api.Ratio
		want string
	}{
		{r(0, 1), "0"}, {r(5, 1), "5"}, {r(-5, 1), "-5"}, {r(5, 6), "5/6"}, {r(-3, 2), "-3/2"}, {r(10, 100003), "10/100003"},
		{r(top, 1), "1000000000000000000"}, {r(-top, 1), "-1000000000000000000"},
		{r(1, top), "1/1000000000000000000"}, {r(-top+1, top), "-999999999999999999/1000000000000000000"},
	} {
		if got, e := ratio.Text(c.a); got != c.want || e != api.OK {
			t.Errorf("Text(%v) = %q, %v", c.a, got, e)
		}
		if got, e := ratio.Parse(c.want); got != c.a || e != api.OK {
			t.Errorf("Parse(%q) = %v, %v", c.want, got, e)
		}
	}
}

// P1.5: what is no text of a ratio.
func TestParseErrors(t *testing.T) {
	for _, s := range []string{
		"2/4", "3/1", "+1", "-0", "", "-", "/", "1/", "/2", "-/2", "0/1", "0/2", "-0/1", "-2/4",
		"01", "-01", "00", "1/02", "001/2", "+1/2", "1/+2", "1/-2", "-1/-2", "1/0", "0/0", "1/1", "-1/1",
		" 1", "1 ", "1 /2", "1/ 2", "1\n", "\t1", "1\x00", "1//2", "1/2/", "1/2/3", "/1/2", "--1", "-+1",
		"1.5", "1,5", "1e3", "0x1", "0b1", "0o7", "1_000", "1_0/3", "a", "1/a", "Inf", "NaN", "½", "１", "٣", "−1",
		"1000000000000000001", "-1000000000000000001", "1/1000000000000000001", "2000000000000000000/2",
		"9223372036854775807", "-9223372036854775808", "9223372036854775808", "1/9223372036854775808",
		"18446744073709551617", "1/18446744073709551618", "99999999999999999999999999999999999999999",
	} {
		if got, e := ratio.Parse(s); got != (api.Ratio{}) || e != api.ErrForm {
			t.Errorf("Parse(%q) = %v, %v", s, got, e)
		}
	}
}

// P1.5: of all short strings of some bytes, Parse accepts just those that are texts.
func TestParseShort(t *testing.T) {
	texts := map[string]api.Ratio{}
	for num := int64(-999); num <= 9999; num++ {
		for den := int64(1); den <= 99; den++ {
			if a := r(num, den); ratio.Check(a) == api.OK {
				text, _ := ratio.Text(a)
				texts[text] = a
			}
		}
	}
	const letters = "012349+-/ "
	short := []string{""}
	for from := 0; len(short[from]) < 4; from++ {
		for _, letter := range letters {
			short = append(short, short[from]+string(letter))
		}
	}
	for _, s := range short {
		want, is := texts[s]
		got, e := ratio.Parse(s)
		if got != want || is != (e == api.OK) || !is && e != api.ErrForm {
			t.Errorf("Parse(%q) = %v, %v", s, got, e)
		}
	}
}

// The error of an invalid ratio comes first, and with it all else is zero.
func TestInvalid(t *testing.T) {
	others := append([]api.Ratio{r(0, 1), r(top, 1), r(1, top), r(1, 2)}, invalid()...)
	for _, bad := range invalid() {
		if got, e := ratio.Floor(bad); got != 0 || e != api.ErrBad {
			t.Errorf("Floor(%v) = %d, %v", bad, got, e)
		}
		if got, e := ratio.Text(bad); got != "" || e != api.ErrBad {
			t.Errorf("Text(%v) = %q, %v", bad, got, e)
		}
		if got, e := ratio.Sum([]api.Ratio{r(1, 2), bad}); got != (api.Ratio{}) || e != api.ErrBad {
			t.Errorf("Sum(1/2, %v) = %v, %v", bad, got, e)
		}
		for _, other := range others {
			for _, p := range [][2]api.Ratio{{bad, other}, {other, bad}} {
				for _, o := range binaries() {
					if got, e := o.call(p[0], p[1]); got != (api.Ratio{}) || e != api.ErrBad {
						t.Errorf("%s(%v, %v) = %v, %v", o.name, p[0], p[1], got, e)
					}
				}
				if got, e := ratio.Cmp(p[0], p[1]); got != 0 || e != api.ErrBad {
					t.Errorf("Cmp(%v, %v) = %d, %v", p[0], p[1], got, e)
				}
			}
		}
	}
}

// R2: Sum only reads its argument, also behind its length.
func TestSumReads(t *testing.T) {
	all := []api.Ratio{r(1, 2), r(1, 3), r(7, 1), r(9, 1)}
	kept := slices.Clone(all)
	if got, e := ratio.Sum(all[:2]); got != r(5, 6) || e != api.OK {
		t.Errorf("Sum = %v, %v", got, e)
	}
	if !slices.Equal(all, kept) {
		t.Errorf("Sum changed its argument to %v", all)
	}
}
