package fixed

import (
	"math"
	"math/big"
	"math/rand"
	"regexp"
	"strings"
	"testing"

	"mullion/api"
)

const (
	one  = int64(api.One)
	most = int64(api.MaxBits)
)

// edges are numbers at which steps go over, go round, or are rounded; some of them may not be.
func edges() []int64 {
	l := []int64{
		0, 1, 2, 3, 7, 15, 16, 255, 4096, 21845, 32767, 32768, 32769,
		one - 1, one, one + 1, 2 * one, 3 * one / 2, 3 * one, 196608, 1 << 31, 1 << 32, 1<<38 - 1, 1 << 38, 1<<38 + 1,
		1<<46 - 1, 1 << 46, 1<<46 + 1, 1<<47 - 1, 1 << 47, 1<<61 - 1, 1 << 61, 1<<61 + 1,
		most - one, most - 2, most - 1, most, most + 1, most + one, math.MaxInt64 - 1, math.MaxInt64,
	}
	for _, n := range l {
		l = append(l, -n)
	}
	return append(l, math.MinInt64)
}

// pairs are all pairs of edges, and some of numbers of any length, always the same ones.
func pairs() [][2]int64 {
	var l [][2]int64
	for _, a := range edges() {
		for _, b := range edges() {
			l = append(l, [2]int64{a, b})
		}
	}
	r := rand.New(rand.NewSource(1))
	for range 50000 {
		l = append(l, [2]int64{int64(r.Uint64()) >> r.Intn(64), int64(r.Uint64()) >> r.Intn(64)})
	}
	return l
}

func mayBe(n *big.Int) bool {
	return n.CmpAbs(big.NewInt(most)) <= 0
}

// down is x by y, rounded down.
func down(x, y *big.Int) *big.Int {
	if y.Sign() < 0 {
		x, y = new(big.Int).Neg(x), new(big.Int).Neg(y)
	}
	return new(big.Int).Div(x, y) // Euclid's, which is down above 0
}

// step is one of the four, and what it should come to, reckoned without bounds (nil: divided by 0).
type step struct {
	name string
	do   func(a, b int64) (int64, api.Errno)
	real func(a, b *big.Int) *big.Int
}

func steps() []step {
	raw := big.NewInt(one)
	return []step{
		{"Add", Add, func(a, b *big.Int) *big.Int { return new(big.Int).Add(a, b) }},
		{"Sub", Sub, func(a, b *big.Int) *big.Int { return new(big.Int).Sub(a, b) }},
		{"Mul", Mul, func(a, b *big.Int) *big.Int { return down(new(big.Int).Mul(a, b), raw) }},
		{"Div", Div, func(a, b *big.Int) *big.Int {
			if b.Sign() == 0 {
				return nil
			}
			return down(new(big.Int).Mul(a, raw), b)
		}},
	}
}

func (s step) want(a, b int64) (int64, api.Errno) {
	x, y := big.NewInt(a), big.NewInt(b)
	n := s.real(x, y)
	if n == nil {
		return 0, api.ErrBy
	}
	if !mayBe(x) || !mayBe(y) || !mayBe(n) {
		return 0, api.ErrOver
	}
	return n.Int64(), api.OK
}

// P1.1: the four steps, against numbers without bounds.
func TestStepsAgainstBig(t *testing.T) {
	for _, s := range steps() {
		for _, p := range pairs() {
			want, wantErr := s.want(p[0], p[1])
			if n, e := s.do(p[0], p[1]); n != want || e != wantErr {
				t.Fatalf("%s(%d, %d): %d, %v; not %d, %v", s.name, p[0], p[1], n, e, want, wantErr)
			}
		}
	}
}

type call struct {
	a, b, n int64
	e       api.Errno
}

func check(t *testing.T, name string, do func(a, b int64) (int64, api.Errno), calls []call) {
	t.Helper()
	for _, c := range calls {
		if n, e := do(c.a, c.b); n != c.n || e != c.e {
			t.Errorf("%s(%d, %d): %d, %v; not %d, %v", name, c.a, c.b, n, e, c.n, c.e)
		}
	}
}

// P1.1: sums and differences.
func TestAddSub(t *testing.T) {
	check(t, "Add", Add, []call{
		{3, 4, 7, api.OK},
		{-3, 2, -1, api.OK},
		{most, 0, most, api.OK},
		{-most, 0, -most, api.OK},
		{most - 1, 1, most, api.OK},
		{most, 1, 0, api.ErrOver},
		{-most, -1, 0, api.ErrOver},
		{most, most, 0, api.ErrOver},
		{-most, -most, 0, api.ErrOver},
		{most, -most, 0, api.OK},
		{most + 1, -1, 0, api.ErrOver},
		{-1, most + 1, 0, api.ErrOver},
		{-most - 1, 1, 0, api.ErrOver},
		{1, -most - 1, 0, api.ErrOver},
		{math.MaxInt64, math.MaxInt64, 0, api.ErrOver},
		{math.MinInt64, math.MinInt64, 0, api.ErrOver},
	})
	check(t, "Sub", Sub, []call{
		{3, 4, -1, api.OK},
		{most, most, 0, api.OK},
		{-most, -most, 0, api.OK},
		{0, most, -most, api.OK},
		{0, -most, most, api.OK},
		{most, -1, 0, api.ErrOver},
		{-most, 1, 0, api.ErrOver},
		{most, -most, 0, api.ErrOver},
		{-most, most, 0, api.ErrOver},
		{most + 1, 1, 0, api.ErrOver},
		{most + 1, most + 1, 0, api.ErrOver},
		{0, math.MinInt64, 0, api.ErrOver},
		{-1, math.MinInt64, 0, api.ErrOver},
	})
}

// P1.1: products, rounded down; what comes out is held against MaxBits when it is rounded.
func TestMul(t *testing.T) {
	check(t, "Mul", Mul, []call{
		{98304, -1, -2, api.OK},
		{1, 1, 0, api.OK},
		{-1, 1, -1, api.OK},
		{1, -1, -1, api.OK},
		{-1, -1, 0, api.OK},
		{32768, 32768, 16384, api.OK},
		{0, -most, 0, api.OK},
		{most, one, most, api.OK},
		{-most, one, -most, api.OK},
		{-most, -one, most, api.OK},
		{most, one + 1, 0, api.ErrOver},
		{most - 1, one + 1, 0, api.ErrOver},
		{most, most, 0, api.ErrOver},
		{-most, most, 0, api.ErrOver},
		{1 << 39, 1 << 39, most, api.OK},
		{1 << 39, -1 << 39, -most, api.OK},
		{most + 1, 0, 0, api.ErrOver},
		{0, most + 1, 0, api.ErrOver},
		{math.MinInt64, 0, 0, api.ErrOver},
		{math.MinInt64, 1, 0, api.ErrOver},
	})
	// Products of 2^78 + 1 and 2^78 - 1: it hangs on the rounding on which side of the bounds they come out.
	check(t, "Mul", Mul, []call{
		{1<<26 + 1, 1<<52 - 1<<26 + 1, most, api.OK},
		{-1<<26 - 1, 1<<52 - 1<<26 + 1, 0, api.ErrOver},
		{1<<26 + 1, -1<<52 + 1<<26 - 1, 0, api.ErrOver},
		{-1<<26 - 1, -1<<52 + 1<<26 - 1, most, api.OK},
		{1<<39 - 1, 1<<39 + 1, most - 1, api.OK},
		{1 - 1<<39, 1<<39 + 1, -most, api.OK},
	})
}

// P1.1: quotients, rounded down; 0 as the divisor goes ahead of all else.
func TestDiv(t *testing.T) {
	check(t, "Div", Div, []call{
		{65536, 196608, 21845, api.OK},
		{-65536, 196608, -21846, api.OK},
		{65536, -196608, -21846, api.OK},
		{-65536, -196608, 21845, api.OK},
		{0, -3, 0, api.OK},
		{1, 0, 0, api.ErrBy},
		{0, 0, 0, api.ErrBy},
		{most + 1, 0, 0, api.ErrBy},
		{math.MinInt64, 0, 0, api.ErrBy},
		{most, one, most, api.OK},
		{-most, -one, most, api.OK},
		{most, one - 1, 0, api.ErrOver},
		{most, 1, 0, api.ErrOver},
		{-most, 1, 0, api.ErrOver},
		{1 << 46, 1, most, api.OK},
		{-1 << 46, 1, -most, api.OK},
		{1<<46 + 1, 1, 0, api.ErrOver},
		{-1<<46 - 1, 1, 0, api.ErrOver},
		{1, most, 0, api.OK},
		{-1, most, -1, api.OK},
		{1, -most, -1, api.OK},
		{most, most, one, api.OK},
		{most + 1, one, 0, api.ErrOver},
		{one, most + 1, 0, api.ErrOver},
		{one, math.MinInt64, 0, api.ErrOver},
		{math.MinInt64, one, 0, api.ErrOver},
	})
	check(t, "Div", Div, []call{
		{3 << 46, 3, most, api.OK},
		{-3 << 46, 3, -most, api.OK},
		{3 << 46, -3, -most, api.OK},
		{3<<46 + 1, 3, 0, api.ErrOver},
		{-3<<46 - 1, 3, 0, api.ErrOver},
	})
}

// P1.1: whole numbers.
func TestOf(t *testing.T) {
	for _, n := range edges() {
		want, wantErr := int64(0), api.ErrOver
		if x := new(big.Int).Mul(big.NewInt(n), big.NewInt(one)); mayBe(x) {
			want, wantErr = x.Int64(), api.OK
		}
		if a, e := Of(n); a != want || e != wantErr {
			t.Errorf("Of(%d): %d, %v; not %d, %v", n, a, e, want, wantErr)
		}
	}
	if a, e := Of(1 << 46); a != most || e != api.OK {
		t.Error(a, e)
	}
	if a, e := Of(1<<46 + 1); a != 0 || e != api.ErrOver {
		t.Error(a, e)
	}
	if a, e := Of(-1 << 46); a != -most || e != api.OK {
		t.Error(a, e)
	}
	if a, e := Of(1 << 48); a != 0 || e != api.ErrOver { // goes round to 0
		t.Error(a, e)
	}
}

// P1.2: whole parts, of any number.
func TestFloor(t *testing.T) {
	for _, x := range [][2]int64{
		{0, 0}, {1, 0}, {one - 1, 0}, {one, 1}, {3 * one / 2, 1},
		{-1, -1}, {-one, -1}, {-one - 1, -2},
		{most, 1 << 46}, {most + 1, 1 << 46},
		{math.MaxInt64, 1<<47 - 1}, {math.MinInt64, -1 << 47},
	} {
		if n := Floor(x[0]); n != x[1] {
			t.Errorf("Floor(%d): %d, not %d", x[0], n, x[1])
		}
	}
	for _, a := range edges() {
		if want := down(big.NewInt(a), big.NewInt(one)).Int64(); Floor(a) != want {
			t.Errorf("Floor(%d): %d, not %d", a, Floor(a), want)
		}
	}
}

// P1.2: what is cut, and by which bound, if they stand the wrong way about.
func TestClamp(t *testing.T) {
	for _, x := range [][4]int64{
		{5, 1, 9, 5}, {1, 1, 9, 1}, {9, 1, 9, 9}, {0, 1, 9, 1}, {10, 1, 9, 9}, {5, 5, 5, 5},
		{5, 9, 1, 9}, {10, 9, 1, 1}, {9, 9, 1, 1}, {0, 9, 1, 9},
		{math.MinInt64, -1, 1, -1}, {math.MaxInt64, -1, 1, 1},
		{3, math.MinInt64, math.MaxInt64, 3}, {math.MinInt64, math.MinInt64, math.MaxInt64, math.MinInt64},
	} {
		if n := Clamp(x[0], x[1], x[2]); n != x[3] {
			t.Errorf("Clamp(%d, %d, %d): %d, not %d", x[0], x[1], x[2], n, x[3])
		}
	}
}

// P1.3: texts, and the numbers that these say.
func TestTexts(t *testing.T) {
	for _, x := range []struct {
		a int64
		s string
	}{
		{98304, "1.8000"}, {-1, "-0.0001"}, {0, "0.0000"}, {1, "0.0001"}, {one, "1.0000"}, {-one, "-1.0000"},
		{one - 1, "0.ffff"}, {-one - 1, "-1.0001"}, {10*one + 0xabc, "10.0abc"}, {1234567890 * one, "1234567890.0000"},
		{-(12*one + 0xabcd), "-12.abcd"}, {100 * one, "100.0000"}, {16, "0.0010"},
		{most, "70368744177664.0000"}, {-most, "-70368744177664.0000"}, {most - 1, "70368744177663.ffff"}, {1 - most, "-70368744177663.ffff"},
	} {
		if s, e := Text(x.a); s != x.s || e != api.OK {
			t.Errorf("Text(%d): %q, %v; not %q", x.a, s, e, x.s)
		}
		if a, e := Parse(x.s); a != x.a || e != api.OK {
			t.Errorf("Parse(%q): %d, %v; not %d", x.s, a, e, x.a)
		}
	}
	for _, a := range []int64{most + 1, -most - 1, math.MaxInt64, math.MinInt64, math.MinInt64 + 1} {
		if s, e := Text(a); s != "" || e != api.ErrOver {
			t.Errorf("Text(%d): %q, %v", a, s, e)
		}
	}
}

// P1.3: what is no number's text.
func TestParseRefuses(t *testing.T) {
	for _, s := range []string{
		"", "-", ".", "-.", "0", "-0", "1", "1.", "1.8", "1.80", "1.800", "1.80000", "1.8000.", "1.8000.0000", ".8000", "-.8000",
		"-0.0000", "00.0000", "01.8000", "-01.8000", "00000000000000000001.0000", "--1.8000", "+1.8000", "1-.8000", "1.8000-", "1..8000", "1...8",
		" 1.8000", "1.8000 ", "1 .8000", "1.8000\n", "1.8000\x00", "\x001.8000", "1,8000", "1_0.8000", "0x1.8000", "1e0.8000",
		"1.ABCD", "1.aBcd", "1.000g", "1.-001", "1.+001", "a.0000", "1a.0000", "0a.8000", "f.ffff", "1.80 0", "nil", "NaN", "١.0000", "1.８000", "1.800\xff",
		"70368744177664.0001", "-70368744177664.0001", "70368744177665.0000", "70368744177664.ffff", "140737488355328.0000", "-140737488355328.0000",
		"281474976710656.0000", "281474976710657.8000", "18446744073709551616.0000", "18446744073709551617.0000", "99999999999999999999.0000",
		"703687441776640000", "4611686018427387904", "1" + strings.Repeat("0", 1000) + ".0000", strings.Repeat("0", 1000) + "1.0000", "1." + strings.Repeat("0", 1000),
		strings.Repeat("-", 1000), strings.Repeat(".", 1000), strings.Repeat("f", 1000),
	} {
		if a, e := Parse(s); a != 0 || e != api.ErrFixed {
			t.Errorf("Parse(%q): %d, %v", s, a, e)
		}
	}
}

var form = regexp.MustCompile(`\A(-?)(0|[1-9][0-9]*)\.([0-9a-f]{4})\z`)

// read is what P1.3 says of a text, by other means.
func read(s string) (int64, api.Errno) {
	part := form.FindStringSubmatch(s)
	if part == nil || s == "-0.0000" {
		return 0, api.ErrFixed
	}
	whole, _ := new(big.Int).SetString(part[2], 10)
	rest, _ := new(big.Int).SetString(part[3], 16)
	n := whole.Add(whole.Lsh(whole, 16), rest)
	if part[1] == "-" {
		n.Neg(n)
	}
	if !mayBe(n) {
		return 0, api.ErrFixed
	}
	return n.Int64(), api.OK
}

func same(t *testing.T, s string) {
	t.Helper()
	want, wantErr := read(s)
	if a, e := Parse(s); a != want || e != wantErr {
		t.Fatalf("Parse(%q): %d, %v; not %d, %v", s, a, e, want, wantErr)
	}
}

// P1.3: all short texts of some bytes, and texts of numbers with one byte other, more or fewer.
func TestParseAgainstForm(t *testing.T) {
	letters := "-.019afA "
	texts := []string{""}
	for range 6 {
		var longer []string
		for _, s := range texts {
			same(t, s)
			if len(s) < 5 {
				for _, c := range letters {
					longer = append(longer, s+string(c))
				}
			}
		}
		texts = longer
	}
	for _, a := range edges() {
		s, e := Text(a)
		if e != api.OK {
			continue
		}
		for at := range len(s) + 1 {
			for _, c := range letters + "+g\n\x00é" {
				same(t, s[:at]+string(c)+s[at:])
				if at < len(s) {
					same(t, s[:at]+string(c)+s[at+1:])
				}
			}
			if at < len(s) {
				same(t, s[:at]+s[at+1:])
			}
		}
	}
}

// P1.4: Parse of Text is the number.
func TestThereAndBack(t *testing.T) {
	for _, p := range pairs() {
		s, e := Text(p[0])
		if e != api.OK {
			continue
		}
		if want, wantErr := read(s); want != p[0] || wantErr != api.OK {
			t.Fatalf("Text(%d): %q", p[0], s)
		}
		if a, e := Parse(s); a != p[0] || e != api.OK {
			t.Fatalf("%d, %q: %d, %v", p[0], s, a, e)
		}
	}
}

// P1.4: sums and products do not hang on the order of two.
func TestOrderOfTwo(t *testing.T) {
	for _, s := range steps() {
		if s.name != "Add" && s.name != "Mul" {
			continue
		}
		for _, p := range pairs() {
			n, e := s.do(p[0], p[1])
			if m, f := s.do(p[1], p[0]); n != m || e != f {
				t.Fatalf("%s(%d, %d): %d, %v and %d, %v", s.name, p[0], p[1], n, e, m, f)
			}
		}
	}
}

// P1.4: by One the product is the number, and the quotient too.
func TestByOne(t *testing.T) {
	for _, p := range pairs() {
		a := p[0]
		if !mayBe(big.NewInt(a)) {
			continue
		}
		if n, e := Mul(a, one); n != a || e != api.OK {
			t.Fatal(a, n, e)
		}
		if n, e := Div(a, one); n != a || e != api.OK {
			t.Fatal(a, n, e)
		}
	}
}

// P1.4: a quotient times the divisor is at most the dividend, and less than the divisor below it.
func TestQuotientTimesDivisor(t *testing.T) {
	for _, p := range pairs() {
		q, e := Div(p[0], p[1])
		if e != api.OK || p[1] < 0 {
			continue
		}
		back, e := Mul(q, p[1])
		if e != api.OK {
			// Less than the divisor below the dividend there may be no number any more.
			if p[0]-p[1] >= -most {
				t.Fatal(p, q, e)
			}
			continue
		}
		if back > p[0] || p[0]-back >= p[1] {
			t.Fatal(p, q, back)
		}
	}
}

// Steps know when they went round, of integers with a sign and without one.
func TestGoesRound(t *testing.T) {
	for a := range 256 {
		for b := range 256 {
			x, y := int(int8(a)), int(int8(b))
			if n, ok := plus(int8(a), int8(b)); ok != (int(n) == x+y) {
				t.Fatal(x, y, n, ok)
			}
			if n, ok := minus(int8(a), int8(b)); ok != (int(n) == x-y) {
				t.Fatal(x, y, n, ok)
			}
			if n, ok := plus(uint8(a), uint8(b)); ok != (int(n) == a+b) {
				t.Fatal(a, b, n, ok)
			}
			if n, ok := minus(uint8(a), uint8(b)); ok != (int(n) == a-b) {
				t.Fatal(a, b, n, ok)
			}
		}
	}
}
