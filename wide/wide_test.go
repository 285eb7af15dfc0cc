package wide

import (
	"math"
	"math/big"
	"math/rand"
	"regexp"
	"slices"
	"strings"
	"testing"

	"mullion/api"
)

const (
	top    = int64(math.MaxInt64)
	bottom = int64(math.MinInt64)
)

var (
	greatest = api.Wide{Hi: top, Lo: math.MaxUint64}
	least    = api.Wide{Hi: bottom}
	none     = api.Wide{}
)

// exact is the number that x says, without bounds.
func exact(x api.Wide) *big.Int {
	n := new(big.Int).Lsh(big.NewInt(x.Hi), 64)
	return n.Add(n, new(big.Int).SetUint64(x.Lo))
}

// wide is n, if it is a number.
func wide(n *big.Int) (api.Wide, bool) {
	if n.Cmp(exact(least)) < 0 || n.Cmp(exact(greatest)) > 0 {
		return none, false
	}
	low := new(big.Int).And(n, new(big.Int).SetUint64(math.MaxUint64))
	return api.Wide{Hi: new(big.Int).Rsh(n, 64).Int64(), Lo: low.Uint64()}, true
}

// wanted is what a call should answer, of which n comes out.
func wanted(n *big.Int) (api.Wide, api.Errno) {
	if x, ok := wide(n); ok {
		return x, api.OK
	}
	return none, api.ErrWide
}

// down is x by y, rounded down, and the rest.
func down(x, y *big.Int) (*big.Int, *big.Int) {
	quotient, rest := new(big.Int).QuoRem(x, y, new(big.Int))
	if rest.Sign()*y.Sign() < 0 {
		quotient.Sub(quotient, big.NewInt(1))
		rest.Add(rest, y)
	}
	return quotient, rest
}

// numbers are of 64 bits: such at which something goes over or round, and some of any length, always the same ones.
func numbers() []int64 {
	l := []int64{0, 1, 2, 3, 7, 10, 255, 1e9, 1e18, top - 1, top, bottom + 1}
	for _, bit := range []int{16, 31, 32, 33, 48, 61, 62} {
		l = append(l, 1<<bit-1, 1<<bit, 1<<bit+1)
	}
	for _, n := range l {
		l = append(l, -n)
	}
	r := rand.New(rand.NewSource(2))
	for range 60 {
		l = append(l, int64(r.Uint64())>>r.Intn(64))
	}
	return append(l, bottom)
}

// wides are likewise of 128 bits.
func wides() []api.Wide {
	var l []api.Wide
	add := func(n *big.Int) {
		if x, ok := wide(n); ok {
			l = append(l, x)
		}
	}
	for _, bit := range []uint{0, 1, 2, 31, 32, 62, 63, 64, 65, 95, 96, 125, 126, 127} {
		for _, by := range []int64{-2, -1, 0, 1, 2} {
			n := new(big.Int).Lsh(big.NewInt(1), bit)
			n.Add(n, big.NewInt(by))
			add(n)
			add(new(big.Int).Neg(n))
		}
	}
	for power := range int64(39) {
		n := new(big.Int).Exp(big.NewInt(10), big.NewInt(power), nil)
		add(n)
		add(new(big.Int).Neg(n))
		add(new(big.Int).Sub(n, big.NewInt(1)))
	}
	r := rand.New(rand.NewSource(3))
	for range 150 {
		n := new(big.Int).Rsh(exact(api.Wide{Hi: int64(r.Uint64()), Lo: r.Uint64()}), uint(r.Intn(128)))
		add(n)
	}
	return l
}

// P2.1: numbers and products, and that both parts are those of the number.
func TestOfMul(t *testing.T) {
	for _, x := range []struct {
		n int64
		w api.Wide
	}{
		{0, api.Wide{}}, {1, api.Wide{Lo: 1}}, {-1, api.Wide{Hi: -1, Lo: math.MaxUint64}},
		{top, api.Wide{Lo: 1<<63 - 1}}, {bottom, api.Wide{Hi: -1, Lo: 1 << 63}},
	} {
		if w := Of(x.n); w != x.w {
			t.Errorf("Of(%d): %v, not %v", x.n, w, x.w)
		}
	}
	for _, x := range []struct {
		a, b int64
		w    api.Wide
	}{
		{1 << 62, 4, api.Wide{Hi: 1}}, {-1 << 62, 4, api.Wide{Hi: -1}}, {bottom, 2, api.Wide{Hi: -1}}, {bottom, -2, api.Wide{Hi: 1}},
		{bottom, bottom, api.Wide{Hi: 1 << 62}}, {bottom, top, api.Wide{Hi: -1 << 62, Lo: 1 << 63}}, {top, top, api.Wide{Hi: 1<<62 - 1, Lo: 1}},
		{bottom, -1, api.Wide{Lo: 1 << 63}}, {bottom, 1, api.Wide{Hi: -1, Lo: 1 << 63}}, {bottom, 0, none}, {0, -1, none}, {-3, 5, api.Wide{Hi: -1, Lo: math.MaxUint64 - 14}},
	} {
		if w := Mul(x.a, x.b); w != x.w {
			t.Errorf("Mul(%d, %d): %v, not %v", x.a, x.b, w, x.w)
		}
	}
	for _, a := range numbers() {
		if w, _ := wide(big.NewInt(a)); Of(a) != w {
			t.Fatalf("Of(%d): %v, not %v", a, Of(a), w)
		}
		for _, b := range numbers() {
			want, _ := wide(new(big.Int).Mul(big.NewInt(a), big.NewInt(b)))
			if w := Mul(a, b); w != want {
				t.Fatalf("Mul(%d, %d): %v, not %v", a, b, w, want)
			}
		}
	}
}

// P2.1: sums and differences at the edges.
func TestAddSub(t *testing.T) {
	type call struct {
		x, y, w api.Wide
		e       api.Errno
	}
	for _, c := range []call{
		{api.Wide{Lo: math.MaxUint64}, Of(1), api.Wide{Hi: 1}, api.OK},
		{Of(-1), Of(1), none, api.OK},
		{greatest, none, greatest, api.OK}, {least, none, least, api.OK}, {none, least, least, api.OK},
		{greatest, Of(1), none, api.ErrWide}, {Of(1), greatest, none, api.ErrWide}, {least, Of(-1), none, api.ErrWide},
		{greatest, greatest, none, api.ErrWide}, {least, least, none, api.ErrWide}, {greatest, least, Of(-1), api.OK},
		{api.Wide{Hi: 1 << 62}, api.Wide{Hi: 1 << 62}, none, api.ErrWide}, {api.Wide{Hi: -1 << 62}, api.Wide{Hi: -1 << 62}, least, api.OK},
	} {
		if w, e := Add(c.x, c.y); w != c.w || e != c.e {
			t.Errorf("Add(%v, %v): %v, %v", c.x, c.y, w, e)
		}
	}
	for _, c := range []call{
		{api.Wide{Hi: 1}, Of(1), api.Wide{Lo: math.MaxUint64}, api.OK},
		{none, Of(1), Of(-1), api.OK},
		{greatest, greatest, none, api.OK}, {least, least, none, api.OK}, {least, none, least, api.OK},
		{none, least, none, api.ErrWide}, {Of(-1), least, greatest, api.OK}, {none, greatest, api.Wide{Hi: bottom, Lo: 1}, api.OK}, {Of(-1), greatest, least, api.OK},
		{Of(-2), greatest, none, api.ErrWide}, {greatest, Of(-1), none, api.ErrWide}, {least, Of(1), none, api.ErrWide},
		{greatest, least, none, api.ErrWide}, {least, greatest, none, api.ErrWide},
	} {
		if w, e := Sub(c.x, c.y); w != c.w || e != c.e {
			t.Errorf("Sub(%v, %v): %v, %v", c.x, c.y, w, e)
		}
	}
}

// P2.1: of any two numbers.
func TestPairsAgainstBig(t *testing.T) {
	for _, x := range wides() {
		for _, y := range wides() {
			want, wantErr := wanted(new(big.Int).Add(exact(x), exact(y)))
			if w, e := Add(x, y); w != want || e != wantErr {
				t.Fatalf("Add(%v, %v): %v, %v; not %v, %v", x, y, w, e, want, wantErr)
			}
			want, wantErr = wanted(new(big.Int).Sub(exact(x), exact(y)))
			if w, e := Sub(x, y); w != want || e != wantErr {
				t.Fatalf("Sub(%v, %v): %v, %v; not %v, %v", x, y, w, e, want, wantErr)
			}
			if c := Cmp(x, y); c != exact(x).Cmp(exact(y)) {
				t.Fatalf("Cmp(%v, %v): %d", x, y, c)
			}
		}
	}
}

// P2.1: numbers side by side: the upper part with its sign goes ahead of the lower one, which has none.
func TestCmpSign(t *testing.T) {
	order := []api.Wide{
		least, {Hi: bottom, Lo: 1}, {Hi: -2, Lo: math.MaxUint64}, {Hi: -1}, {Hi: -1, Lo: 1}, {Hi: -1, Lo: 1 << 63}, Of(-1),
		none, Of(1), Of(top), {Lo: 1 << 63}, {Lo: math.MaxUint64}, {Hi: 1}, {Hi: 1, Lo: 1}, {Hi: top}, greatest,
	}
	for i, x := range order {
		for j, y := range order {
			want := 0
			if i < j {
				want = -1
			}
			if i > j {
				want = 1
			}
			if c := Cmp(x, y); c != want {
				t.Errorf("Cmp(%v, %v): %d, not %d", x, y, c, want)
			}
		}
		if s := Sign(x); s != Cmp(x, none) || s != exact(x).Sign() {
			t.Errorf("Sign(%v): %d", x, s)
		}
	}
}

// P2.1: what is a number of 64 bits.
func TestInt(t *testing.T) {
	for _, x := range []struct {
		w api.Wide
		n int64
		e api.Errno
	}{
		{none, 0, api.OK}, {api.Wide{Lo: 1<<63 - 1}, top, api.OK}, {api.Wide{Hi: -1, Lo: 1 << 63}, bottom, api.OK}, {Of(-1), -1, api.OK},
		{api.Wide{Lo: 1 << 63}, 0, api.ErrWide}, {api.Wide{Hi: -1, Lo: 1<<63 - 1}, 0, api.ErrWide}, {api.Wide{Lo: math.MaxUint64}, 0, api.ErrWide},
		{api.Wide{Hi: -1}, 0, api.ErrWide}, {api.Wide{Hi: 1}, 0, api.ErrWide}, {greatest, 0, api.ErrWide}, {least, 0, api.ErrWide},
	} {
		if n, e := Int(x.w); n != x.n || e != x.e {
			t.Errorf("Int(%v): %d, %v; not %d, %v", x.w, n, e, x.n, x.e)
		}
	}
	for _, n := range numbers() {
		if m, e := Int(Of(n)); m != n || e != api.OK {
			t.Errorf("Int(Of(%d)): %d, %v", n, m, e)
		}
	}
	for _, x := range wides() {
		n, e := Int(x)
		if ok := exact(x).IsInt64(); ok != (e == api.OK) || ok && n != exact(x).Int64() || !ok && (n != 0 || e != api.ErrWide) {
			t.Errorf("Int(%v): %d, %v", x, n, e)
		}
	}
}

// P2.2: quotients, rounded down, and rests.
func TestDiv(t *testing.T) {
	for _, x := range []struct {
		w api.Wide
		c int64
		q api.Wide
		r int64
		e api.Errno
	}{
		{Of(7), 2, Of(3), 1, api.OK}, {Of(-7), 2, Of(-4), 1, api.OK}, {Of(7), -2, Of(-4), -1, api.OK}, {Of(-7), -2, Of(3), -1, api.OK},
		{Of(6), -3, Of(-2), 0, api.OK}, {Of(-6), 3, Of(-2), 0, api.OK}, {none, -5, none, 0, api.OK}, {Of(1), -5, Of(-1), -4, api.OK}, {Of(-1), 5, Of(-1), 4, api.OK},
		{Of(7), 0, none, 0, api.ErrZero}, {none, 0, none, 0, api.ErrZero}, {least, 0, none, 0, api.ErrZero},
		{least, -1, none, 0, api.ErrWide}, {least, 1, least, 0, api.OK}, {api.Wide{Hi: bottom, Lo: 1}, -1, greatest, 0, api.OK}, {greatest, -1, api.Wide{Hi: bottom, Lo: 1}, 0, api.OK},
		{least, -2, api.Wide{Hi: 1 << 62}, 0, api.OK}, {least, 2, api.Wide{Hi: -1 << 62}, 0, api.OK}, {greatest, -2, api.Wide{Hi: -1 << 62}, -1, api.OK},
		{least, bottom, api.Wide{Hi: 1}, 0, api.OK}, {greatest, bottom, api.Wide{Hi: -1}, -1, api.OK}, {Of(1), bottom, Of(-1), bottom + 1, api.OK},
		{Of(bottom), bottom, Of(1), 0, api.OK}, {Of(bottom + 1), bottom, none, bottom + 1, api.OK}, {Of(-1), top, Of(-1), top - 1, api.OK}, {Of(bottom), -1, api.Wide{Lo: 1 << 63}, 0, api.OK},
	} {
		if q, r, e := Div(x.w, x.c); q != x.q || r != x.r || e != x.e {
			t.Errorf("Div(%v, %d): %v, %d, %v; not %v, %d, %v", x.w, x.c, q, r, e, x.q, x.r, x.e)
		}
	}
	for _, x := range wides() {
		for _, c := range numbers() {
			q, r, e := Div(x, c)
			if c == 0 {
				if q != none || r != 0 || e != api.ErrZero {
					t.Fatalf("Div(%v, 0): %v, %d, %v", x, q, r, e)
				}
				continue
			}
			quotient, rest := down(exact(x), big.NewInt(c))
			want, wantErr := wanted(quotient)
			if q != want || e != wantErr || e == api.OK && r != rest.Int64() || e != api.OK && r != 0 {
				t.Fatalf("Div(%v, %d): %v, %d, %v; not %v, %v, %v", x, c, q, r, e, want, rest, wantErr)
			}
		}
	}
}

// P2.2: products, divided; the product is whole on the way.
func TestMulDiv(t *testing.T) {
	for _, x := range []struct {
		a, b, c, n int64
		e          api.Errno
	}{
		{-7, 1, 2, -4, api.OK}, {7, 1, -2, -4, api.OK}, {-7, -1, 2, 3, api.OK}, {1 << 62, 4, 8, 1 << 61, api.OK}, {0, bottom, 3, 0, api.OK},
		{1, 1, 0, 0, api.ErrZero}, {0, 0, 0, 0, api.ErrZero}, {bottom, bottom, 0, 0, api.ErrZero},
		{bottom, -1, 1, 0, api.ErrWide}, {bottom, 1, -1, 0, api.ErrWide}, {bottom, -1, -1, bottom, api.OK}, {bottom, 1, 1, bottom, api.OK},
		{top, 2, 2, top, api.OK}, {top, 2, 1, 0, api.ErrWide}, {bottom, 2, 2, bottom, api.OK}, {bottom, bottom, bottom, bottom, api.OK}, {bottom, bottom, top, 0, api.ErrWide},
		{1 << 62, 4, 2, 0, api.ErrWide}, {-1 << 62, 4, 2, bottom, api.OK}, {1 << 62, 4, -2, bottom, api.OK}, {1 << 62, 2, 1, 0, api.ErrWide},
	} {
		if n, e := MulDiv(x.a, x.b, x.c); n != x.n || e != x.e {
			t.Errorf("MulDiv(%d, %d, %d): %d, %v; not %d, %v", x.a, x.b, x.c, n, e, x.n, x.e)
		}
	}
	// Products about 2^64, by 2: it hangs on the rounding whether the last one goes into 64 bits.
	for _, x := range []struct {
		a, b, c, n int64
		e          api.Errno
	}{
		{-1 << 32, 1 << 31, 1, bottom, api.OK}, {1<<32 + 1, 1<<32 - 1, 2, top, api.OK}, {1<<32 + 1, 1 - 1<<32, 2, bottom, api.OK}, {1 << 32, 1 << 32, 2, 0, api.ErrWide},
		{bottom, 3, 2, 0, api.ErrWide}, {274177, -67280421310721, 2, 0, api.ErrWide},
	} {
		if n, e := MulDiv(x.a, x.b, x.c); n != x.n || e != x.e {
			t.Errorf("MulDiv(%d, %d, %d): %d, %v; not %d, %v", x.a, x.b, x.c, n, e, x.n, x.e)
		}
	}
	r := rand.New(rand.NewSource(4))
	all := numbers()
	for range 200000 {
		a, b, c := all[r.Intn(len(all))], all[r.Intn(len(all))], all[r.Intn(len(all))]
		n, e := MulDiv(a, b, c)
		want, wantErr := int64(0), api.ErrZero
		if c != 0 {
			wantErr = api.ErrWide
			if q, _ := down(new(big.Int).Mul(big.NewInt(a), big.NewInt(b)), big.NewInt(c)); q.IsInt64() {
				want, wantErr = q.Int64(), api.OK
			}
		}
		if n != want || e != wantErr {
			t.Fatalf("MulDiv(%d, %d, %d): %d, %v; not %d, %v", a, b, c, n, e, want, wantErr)
		}
	}
}

// P2.3: sums of products, of the places that both lists have, refused at the first one that is no number, though the whole may be one.
func TestSum(t *testing.T) {
	for i, x := range []struct {
		a, b []int64
		w    api.Wide
		e    api.Errno
	}{
		{nil, nil, none, api.OK}, {[]int64{}, nil, none, api.OK}, {[]int64{5}, nil, none, api.OK}, {nil, []int64{5}, none, api.OK},
		{[]int64{2, 3}, []int64{5, 7}, Of(31), api.OK}, {[]int64{2, 3, bottom}, []int64{5, 7}, Of(31), api.OK}, {[]int64{2}, []int64{5, 7}, Of(10), api.OK},
		{[]int64{bottom}, []int64{bottom}, api.Wide{Hi: 1 << 62}, api.OK},
		{[]int64{bottom, bottom}, []int64{bottom, bottom}, none, api.ErrWide},
		{[]int64{bottom, bottom, bottom}, []int64{bottom, bottom, top}, none, api.ErrWide},
		{[]int64{bottom, bottom, bottom}, []int64{bottom, top, bottom}, api.Wide{Hi: 1 << 62, Lo: 1 << 63}, api.OK},
		{[]int64{bottom, bottom, -1}, []int64{bottom, bottom, 1}, none, api.ErrWide},
		{[]int64{bottom, -1, bottom}, []int64{bottom, 1, bottom}, greatest, api.OK},
		{[]int64{bottom, bottom, 1}, []int64{top, top, bottom}, api.Wide{Hi: bottom, Lo: 1 << 63}, api.OK},
		{[]int64{bottom, bottom, 1, 1, 1}, []int64{top, top, bottom, bottom, -1}, none, api.ErrWide},
	} {
		if w, e := Sum(x.a, x.b); w != x.w || e != x.e {
			t.Errorf("%d: %v, %v; not %v, %v", i, w, e, x.w, x.e)
		}
	}
	r := rand.New(rand.NewSource(5))
	all := numbers()
	for range 20000 {
		a, b := some(r, all), some(r, all)
		want, wantErr := sumOf(a, b)
		if w, e := Sum(a, b); w != want || e != wantErr {
			t.Fatalf("Sum(%v, %v): %v, %v; not %v, %v", a, b, w, e, want, wantErr)
		}
	}
}

func some(r *rand.Rand, all []int64) []int64 {
	l := make([]int64, r.Intn(8))
	for i := range l {
		l[i] = all[r.Intn(len(all))]
		if r.Intn(2) == 0 {
			l[i] = []int64{bottom, top}[r.Intn(2)]
		}
	}
	return l
}

// sumOf is what P2.3 says of a sum, by other means.
func sumOf(a, b []int64) (api.Wide, api.Errno) {
	n := new(big.Int)
	for i := range min(len(a), len(b)) {
		n.Add(n, new(big.Int).Mul(big.NewInt(a[i]), big.NewInt(b[i])))
		if _, ok := wide(n); !ok {
			return none, api.ErrWide
		}
	}
	return wanted(n)
}

// P2.3: texts of numbers, and numbers of texts.
func TestTexts(t *testing.T) {
	for _, x := range []struct {
		w api.Wide
		s string
	}{
		{none, "0"}, {Of(7), "7"}, {Of(-1), "-1"}, {Of(10), "10"}, {Of(-100), "-100"}, {Mul(-1e18, 1e18), "-1" + strings.Repeat("0", 36)},
		{Of(top), "9223372036854775807"}, {Of(bottom), "-9223372036854775808"}, {api.Wide{Lo: math.MaxUint64}, "18446744073709551615"}, {api.Wide{Hi: 1}, "18446744073709551616"}, {api.Wide{Hi: -1}, "-18446744073709551616"},
		{greatest, "170141183460469231731687303715884105727"}, {least, "-170141183460469231731687303715884105728"},
	} {
		if s := Text(x.w); s != x.s {
			t.Errorf("Text(%v): %q, not %q", x.w, s, x.s)
		}
		if w, e := Parse(x.s); w != x.w || e != api.OK {
			t.Errorf("Parse(%q): %v, %v; not %v", x.s, w, e, x.w)
		}
	}
	for _, x := range wides() {
		if s := Text(x); s != exact(x).String() {
			t.Errorf("Text(%v): %q", x, s)
		}
	}
}

// P2.3: what is no number's text.
func TestParseRefuses(t *testing.T) {
	for _, s := range []string{
		"", "-", "--", "-0", "+0", "+1", "00", "01", "-01", "--1", "1-", "1-1", "0-", " 1", "1 ", "1\n", "\x001", "1\x00", "1_0", "1,0", "1.0", "1e3", "0x1", "a", "1a", "/", ":", "1/", "1:", "٣", "１", "\xff", "nil",
		"170141183460469231731687303715884105728", "-170141183460469231731687303715884105729", "999999999999999999999999999999999999999", "-999999999999999999999999999999999999999",
		"340282366920938463463374607431768211455", "340282366920938463463374607431768211456", "340282366920938463463374607431768211457", "-340282366920938463463374607431768211457", "680564733841876926926749214863536422912",
		"1000000000000000000000000000000000000000", "0000000000000000000000000000000000000001", "3402823669209384634633746074317682114561",
		strings.Repeat("0", 1000) + "1", "1" + strings.Repeat("0", 1000), strings.Repeat("-", 1000), strings.Repeat("9", 1<<20),
	} {
		if w, e := Parse(s); w != none || e != api.ErrWide {
			t.Errorf("Parse(%q): %v, %v", s, w, e)
		}
	}
}

var form = regexp.MustCompile(`\A(0|-?[1-9][0-9]*)\z`)

// same holds Parse against what P2.3 says of a text, by other means.
func same(t *testing.T, s string) {
	t.Helper()
	want, wantErr := none, api.ErrWide
	if form.MatchString(s) {
		n, _ := new(big.Int).SetString(s, 10)
		want, wantErr = wanted(n)
	}
	if w, e := Parse(s); w != want || e != wantErr {
		t.Fatalf("Parse(%q): %v, %v; not %v, %v", s, w, e, want, wantErr)
	}
}

// P2.3: all short texts of some letters, and texts of numbers with one letter other, more or fewer.
func TestParseAgainstForm(t *testing.T) {
	letters := "-019/:+ a"
	texts := []string{""}
	for range 6 {
		var longer []string
		for _, s := range texts {
			same(t, s)
			for _, c := range letters {
				longer = append(longer, s+string(c))
			}
		}
		texts = longer
	}
	for _, x := range wides() {
		s := Text(x)
		for at := range len(s) + 1 {
			for _, c := range letters + "28\n\x00é" {
				same(t, s[:at]+string(c)+s[at:])
				if at < len(s) {
					same(t, s[:at]+string(c)+s[at+1:])
				}
			}
			if at < len(s) {
				same(t, s[:at]+s[at+1:])
			}
		}
	}
}

// P2.4: lists that are handed in are as they were, behind their ends too.
func TestOnlyReads(t *testing.T) {
	a, b := []int64{bottom, 2, -3, 4}, []int64{5, top, -7, 8}
	keptA, keptB := slices.Clone(a), slices.Clone(b)
	Sum(a[:3], b[:2])
	Sum(a[1:2], b)
	Sum(a, a)
	Sum(a, []int64{bottom, bottom})
	if !slices.Equal(a, keptA) || !slices.Equal(b, keptB) {
		t.Error(a, b)
	}
	first, _ := Sum(a, b)
	if second, _ := Sum(a, b); first != second {
		t.Error(first, second)
	}
}

// P2.5: the quotient times the divisor, and the rest, are the number again; the rest is of the divisor's sign, and nearer to 0.
func TestQuotientAndRest(t *testing.T) {
	for _, x := range wides() {
		for _, c := range numbers() {
			q, r, e := Div(x, c)
			if e != api.OK {
				continue
			}
			if r != 0 && (r < 0) != (c < 0) || big.NewInt(r).CmpAbs(big.NewInt(c)) >= 0 {
				t.Fatalf("Div(%v, %d): the rest %d", x, c, r)
			}
			back := new(big.Int).Mul(exact(q), big.NewInt(c))
			if back.Add(back, big.NewInt(r)).Cmp(exact(x)) != 0 {
				t.Fatalf("Div(%v, %d): %v, %d", x, c, q, r)
			}
		}
	}
}

// P2.5: sums may be made in any order, and differences undo them.
func TestAnyOrder(t *testing.T) {
	r := rand.New(rand.NewSource(6))
	all := wides()
	for range 100000 {
		x, y, z := all[r.Intn(len(all))], all[r.Intn(len(all))], all[r.Intn(len(all))]
		xy, e := Add(x, y)
		yx, f := Add(y, x)
		if xy != yx || e != f {
			t.Fatal(x, y, xy, yx, e, f)
		}
		if e != api.OK {
			continue
		}
		if back, e := Sub(xy, y); back != x || e != api.OK {
			t.Fatal(x, y, xy, back, e)
		}
		yz, e := Add(y, z)
		if e != api.OK {
			continue
		}
		left, e := Add(xy, z)
		right, f := Add(x, yz)
		if left != right || e != f {
			t.Fatal(x, y, z, left, right, e, f)
		}
	}
	for range 5000 {
		a, b := make([]int64, 6), make([]int64, 6)
		for i := range a {
			a[i], b[i] = int64(r.Uint64())>>2, int64(r.Uint64())>>2
		}
		sum, e := Sum(a, b)
		r.Shuffle(len(a), func(i, j int) {
			a[i], a[j] = a[j], a[i]
			b[i], b[j] = b[j], b[i]
		})
		if again, f := Sum(b, a); again != sum || e != api.OK || f != api.OK {
			t.Fatal(a, b, sum, again, e, f)
		}
	}
}

// P2.5: Parse of Text is the number.
func TestThereAndBack(t *testing.T) {
	for _, x := range wides() {
		if w, e := Parse(Text(x)); w != x || e != api.OK {
			t.Fatal(x, Text(x), w, e)
		}
	}
}
