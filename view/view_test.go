package view

import (
	"math"
	"math/big"
	"math/rand"
	"slices"
	"testing"

	"mullion/api"
	"mullion/clip"
	"mullion/matrix"
)

const (
	top    = math.MaxInt64
	bottom = math.MinInt64
)

// whole is a number without bounds.
func whole(n int64) *big.Int { return big.NewInt(n) }

// down is a product of two by a third one, which is above 0, rounded down.
func down(a, b, by *big.Int) *big.Int {
	n := new(big.Int).Mul(a, b)
	// Div is rounded down, for by is above 0.
	return n.Div(n, by)
}

// sizeWanted says by the chapter's words whether an image may be of a size.
func sizeWanted(w, h int) bool {
	return w >= 1 && w <= 64 && h >= 1 && h <= 64
}

// seenWanted says by the chapter's words whether a vertex may be seen.
func seenWanted(v api.Vec) bool {
	far := new(big.Int).Lsh(whole(1), 43)
	for _, n := range v {
		if whole(n).CmpAbs(far) >= 0 {
			return false
		}
	}
	bound := new(big.Int).Mul(whole(3), whole(v[3]))
	return v[3] >= 4096 && whole(v[0]).CmpAbs(bound) <= 0 && whole(v[1]).CmpAbs(bound) <= 0
}

// cornerWanted is the corner of a vertex that may be seen.
func cornerWanted(v api.Vec, w, h int) api.Corner {
	x, y, z, by := whole(v[0]), whole(v[1]), whole(v[2]), whole(v[3])
	c := api.Corner{
		X: down(new(big.Int).Add(x, by), whole(8*int64(w)), by).Int64(),
		Y: down(new(big.Int).Sub(by, y), whole(8*int64(h)), by).Int64(),
	}
	depth := down(z, whole(1<<24-1), by)
	switch {
	case depth.Sign() < 0:
	case depth.Cmp(whole(1<<24-1)) > 0:
		c.Z = 1<<24 - 1
	default:
		c.Z = depth.Int64()
	}
	return c
}

// throughWanted is a vertex through a matrix, if that may be.
func throughWanted(m api.Matrix, v [3]int64) (api.Vec, bool) {
	bound := new(big.Int).Lsh(whole(1), 62)
	vertex := api.Vec{v[0], v[1], v[2], 65536}
	var through api.Vec
	may := true
	for row, numbers := range m {
		sum := new(big.Int)
		for i, n := range numbers {
			may = may && whole(n).CmpAbs(bound) <= 0 && whole(vertex[i]).CmpAbs(bound) <= 0
			sum.Add(sum, new(big.Int).Mul(whole(n), whole(vertex[i])))
		}
		sum.Div(sum, whole(65536))
		may = may && sum.CmpAbs(bound) <= 0
		through[row] = sum.Int64()
	}
	if !may {
		return api.Vec{}, false
	}
	return through, true
}

// sizes are some of which an image may be.
func sizes() [][2]int {
	return [][2]int{{4, 2}, {1, 1}, {1, 64}, {64, 1}, {64, 64}, {10, 5}, {63, 7}}
}

// notSizes are some of which none may be.
func notSizes() [][2]int {
	var l [][2]int
	for _, n := range []int{0, -1, 65, 66, 128, -4, 1 << 32, top, bottom} {
		l = append(l, [2]int{n, 2}, [2]int{4, n}, [2]int{n, n})
	}
	return append(l, [2]int{0, 65}, [2]int{top, bottom})
}

// unseen are vertices that may not be seen: by one number each, at the bound of it and beyond it.
func unseen() []api.Vec {
	l := []api.Vec{{}, {bottom, bottom, bottom, bottom}, {top, top, top, top}, {top, bottom, top, bottom}}
	for _, w := range []int64{4095, 1, 0, -1, -4096, 1 - api.Far} {
		l = append(l, api.Vec{0, 0, 0, w}, api.Vec{1, -1, 1, w})
	}
	for _, w := range []int64{4096, 4097, 65536, 1 << 30} {
		for _, n := range []int64{3*w + 1, -3*w - 1, 4 * w, -4 * w} {
			l = append(l, api.Vec{n, 0, 0, w}, api.Vec{0, n, 0, w}, api.Vec{n, n, 0, w})
		}
	}
	for i := range 4 {
		for _, n := range []int64{api.Far, -api.Far, api.Far + 1, -api.Far - 1, top, bottom, bottom + 1} {
			v := api.Vec{7, 8, 9, api.Far - 1}
			v[i] = n
			l = append(l, v)
		}
	}
	return l
}

// some is a vertex that may be seen, of a size that is chosen by chance, often at a bound.
func some(r *rand.Rand) api.Vec {
	w := api.Near + r.Int63n(int64(1)<<r.Intn(44))
	w = min(w, api.Far-1)
	var v api.Vec
	for i := range 2 {
		v[i] = r.Int63n(6*w+1) - 3*w
		if r.Intn(4) == 0 {
			v[i] = []int64{3 * w, -3 * w, w, -w, w - 1, 1 - w, 0, 1, -1}[r.Intn(9)]
		}
		v[i] = min(max(v[i], 1-api.Far), api.Far-1)
	}
	v[2] = []int64{0, -1, w, w + 1, w - 1, r.Int63n(w), r.Int63n(w), r.Int63n(api.Far), -r.Int63n(api.Far)}[r.Intn(9)]
	v[2] = min(v[2], api.Far-1)
	v[3] = w
	return v
}

// size is one of which an image may be.
func size(r *rand.Rand) (int, int) {
	return 1 + r.Intn(64), 1 + r.Intn(64)
}

// P10.1: both from 1 to 64.
func TestCheck(t *testing.T) {
	for w := -70; w < 140; w++ {
		for h := -70; h < 140; h++ {
			want := api.OK
			if !sizeWanted(w, h) {
				want = api.ErrView
			}
			if e := Check(w, h); e != want {
				t.Error(w, h, e)
			}
		}
	}
	for _, s := range notSizes() {
		if e := Check(s[0], s[1]); e != api.ErrView {
			t.Error(s, e)
		}
	}
	for _, s := range sizes() {
		if e := Check(s[0], s[1]); e != api.OK {
			t.Error(s, e)
		}
	}
}

// P10.1: the vertices' w is One, so that what moves moves them; in order.
func TestThrough(t *testing.T) {
	l := [][3]int64{{10, 20, 30}, {}, {-1, -2, -3}, {10, 20, 30}}
	want := []api.Vec{{11, 22, 33, 65536}, {1, 2, 3, 65536}, {0, 0, 0, 65536}, {11, 22, 33, 65536}}
	if through, e := Through(matrix.Move(1, 2, 3), l); !slices.Equal(through, want) || e != api.OK {
		t.Error(through, e)
	}
	m := api.Matrix{{1, 0, 0, 0}, {0, -1, 0, 0}, {0, 0, 65536, 0}, {0, 0, 65536, 0}}
	want = []api.Vec{{0, -1, 30, 30}, {}, {-1, 0, -3, -3}, {0, -1, 30, 30}}
	if through, e := Through(m, l); !slices.Equal(through, want) || e != api.OK {
		t.Error(through, e)
	}
	if through, e := Through(matrix.Identity(), nil); len(through) != 0 || e != api.OK {
		t.Error(through, e)
	}
}

// P10.1: by chance, at all sizes, whether they may be or not.
func TestThroughByChance(t *testing.T) {
	r := rand.New(rand.NewSource(1))
	some := func(bits int) int64 { return (r.Int63() >> (63 - bits)) * int64(1-2*r.Intn(2)) }
	refused, passed := 0, 0
	for range 20000 {
		bits, far := 1+r.Intn(63), 1+r.Intn(63)
		var m api.Matrix
		for row := range m {
			for column := range m[row] {
				m[row][column] = some(bits)
			}
		}
		var l [][3]int64
		var want []api.Vec
		fault := api.OK
		for range 1 + r.Intn(4) {
			v := [3]int64{some(far), some(far), some(far)}
			l = append(l, v)
			through, may := throughWanted(m, v)
			if want = append(want, through); !may {
				fault = api.ErrMatrix
			}
		}
		if fault != api.OK {
			want = nil
			refused++
		} else {
			passed++
		}
		if through, e := Through(m, l); !slices.Equal(through, want) || e != fault {
			t.Fatal(m, l, through, e)
		}
	}
	if refused < 2000 || passed < 2000 {
		t.Error(refused, passed)
	}
}

// P10.1: ErrMatrix, whichever vertex it is of; none asks of no vertices.
func TestThroughRefused(t *testing.T) {
	refused := func(m api.Matrix, l ...[3]int64) {
		t.Helper()
		if through, e := Through(m, l); len(through) != 0 || e != api.ErrMatrix {
			t.Error(m, l, through, e)
		}
	}
	good := [3]int64{1, 2, 3}
	for _, n := range []int64{api.MaxBits + 1, -api.MaxBits - 1, top, bottom} {
		for i := range 3 {
			bad := good
			bad[i] = n
			refused(api.Matrix{}, bad)
			refused(matrix.Identity(), bad)
			refused(matrix.Identity(), bad, good, good)
			refused(matrix.Identity(), good, bad, good)
			refused(matrix.Identity(), good, good, bad)
			refused(matrix.Identity(), bad, bad, bad)
		}
		for i := range 16 {
			m := matrix.Identity()
			m[i/4][i%4] = n
			refused(m, good)
			refused(m, [3]int64{}, good)
			if through, e := Through(m, nil); len(through) != 0 || e != api.OK {
				t.Error(m, through, e)
			}
			if through, e := Through(m, [][3]int64{}); len(through) != 0 || e != api.OK {
				t.Error(m, through, e)
			}
		}
	}
	// What comes of them is at the bound, and beyond it.
	double := matrix.Scale(2*api.One, 2*api.One, 2*api.One)
	refused(double, good, [3]int64{0, 0, 1<<61 + 1})
	refused(double, good, [3]int64{-1<<61 - 1})
	if through, e := Through(double, [][3]int64{{1 << 61, -1 << 61, 1}}); !slices.Equal(through, []api.Vec{{1 << 62, -1 << 62, 2, 65536}}) || e != api.OK {
		t.Error(through, e)
	}
}

// P10.2: the chapter's examples, and some that are told by hand.
func TestCorner(t *testing.T) {
	m := int64(api.Far - 1)
	tests := []struct {
		v    api.Vec
		w, h int
		c    api.Corner
	}{
		{api.Vec{0, 0, 0, 4096}, 4, 2, api.Corner{X: 32, Y: 16}},
		{api.Vec{4096, 4096, 4096, 4096}, 4, 2, api.Corner{X: 64, Y: 0, Z: 16777215}},
		{api.Vec{-1, -1, 1, 4096}, 4, 2, api.Corner{X: 31, Y: 16, Z: 4095}},
		{api.Vec{0, 0, -9, 4096}, 4, 2, api.Corner{X: 32, Y: 16}},
		{api.Vec{1, 1, -1, 4096}, 4, 2, api.Corner{X: 32, Y: 15}},
		{api.Vec{127, -128, 4095, 4096}, 4, 2, api.Corner{X: 32, Y: 16, Z: 16773119}},
		{api.Vec{128, -256, 4097, 4096}, 4, 2, api.Corner{X: 33, Y: 17, Z: 16777215}},
		{api.Vec{12288, 12288, 0, 4096}, 4, 2, api.Corner{X: 128, Y: -32}},
		{api.Vec{-12288, -12288, 0, 4096}, 4, 2, api.Corner{X: -64, Y: 64}},
		{api.Vec{-12287, 12287, 0, 4096}, 4, 2, api.Corner{X: -64, Y: -32}},
		{api.Vec{-4097, 4097, 0, 4096}, 4, 2, api.Corner{X: -1, Y: -1}},
		{api.Vec{12288, -12288, 8192, 4096}, 64, 64, api.Corner{X: 2048, Y: 2048, Z: 16777215}},
		{api.Vec{-12288, 12288, 2048, 4096}, 64, 64, api.Corner{X: -1024, Y: -1024, Z: 8388607}},
		{api.Vec{0, 0, 1, 1 << 24}, 1, 1, api.Corner{X: 8, Y: 8}},
		{api.Vec{0, 0, 2, 1 << 24}, 1, 1, api.Corner{X: 8, Y: 8, Z: 1}},
		{api.Vec{m, m, m, m}, 64, 3, api.Corner{X: 1024, Y: 0, Z: 16777215}},
		{api.Vec{-m, -m, -m, m}, 64, 3, api.Corner{X: 0, Y: 48}},
		{api.Vec{0, 0, m, 4096}, 4, 2, api.Corner{X: 32, Y: 16, Z: 16777215}},
		{api.Vec{0, 0, -m, 4096}, 4, 2, api.Corner{X: 32, Y: 16}},
	}
	for _, c := range tests {
		if got, e := Corner(c.v, c.w, c.h); got != c.c || e != api.OK {
			t.Error(c, got, e)
		}
	}
}

// P10.2: by chance, of all sizes.
func TestCornerByChance(t *testing.T) {
	r := rand.New(rand.NewSource(2))
	for range 50000 {
		v := some(r)
		w, h := size(r)
		if !seenWanted(v) {
			t.Fatal(v)
		}
		if c, e := Corner(v, w, h); c != cornerWanted(v, w, h) || e != api.OK {
			t.Fatal(v, w, h, c, e)
		}
	}
}

// P10.2: about each bound of what may be seen.
func TestCornerAtBounds(t *testing.T) {
	refused, passed := 0, 0
	for _, w := range []int64{4094, 4095, 4096, 4097, 65535, 1 << 40, api.Far / 3, api.Far/3 + 1, api.Far - 2, api.Far - 1, api.Far, api.Far + 1} {
		var l []int64
		for _, n := range []int64{0, w, 2 * w, 3 * w, api.Far} {
			for by := int64(-2); by <= 2; by++ {
				l = append(l, n+by, -n+by)
			}
		}
		for _, x := range l {
			for _, y := range l {
				for _, z := range []int64{0, w, -w, 1 - api.Far, api.Far - 1, -api.Far, api.Far} {
					v := api.Vec{x, y, z, w}
					want, fault := api.Corner{}, api.ErrView
					if seenWanted(v) {
						want, fault = cornerWanted(v, 5, 9), api.OK
						passed++
					} else {
						refused++
					}
					if c, e := Corner(v, 5, 9); c != want || e != fault {
						t.Fatal(v, c, e)
					}
				}
			}
		}
	}
	if refused < 10000 || passed < 10000 {
		t.Error(refused, passed)
	}
}

// P10.2: ErrView, of sizes and of vertices.
func TestCornerRefused(t *testing.T) {
	refused := func(v api.Vec, w, h int) {
		t.Helper()
		if c, e := Corner(v, w, h); c != (api.Corner{}) || e != api.ErrView {
			t.Error(v, w, h, c, e)
		}
	}
	refused(api.Vec{12289, 0, 0, 4096}, 4, 2)
	refused(api.Vec{0, 0, 0, 4095}, 4, 2)
	good := api.Vec{1, 2, 3, 4096}
	for _, s := range notSizes() {
		refused(good, s[0], s[1])
		for _, bad := range unseen() {
			refused(bad, s[0], s[1])
		}
	}
	for _, s := range sizes() {
		for _, bad := range unseen() {
			refused(bad, s[0], s[1])
		}
	}
}

// P10.2: of each one its own, in order, of all lengths.
func TestCorners(t *testing.T) {
	r := rand.New(rand.NewSource(3))
	for n := range 300 {
		w, h := size(r)
		var l []api.Vec
		var want []api.Corner
		for range n {
			v := some(r)
			l, want = append(l, v), append(want, cornerWanted(v, w, h))
		}
		if corners, e := Corners(l, w, h); !slices.Equal(corners, want) || e != api.OK {
			t.Fatal(l, w, h, corners, e)
		}
	}
	if corners, e := Corners(nil, 4, 2); len(corners) != 0 || e != api.OK {
		t.Error(corners, e)
	}
	if corners, e := Corners([]api.Vec{}, 64, 64); len(corners) != 0 || e != api.OK {
		t.Error(corners, e)
	}
}

// P10.2: ErrView, whichever vertex may not be seen, and of no vertices too, if the size may not be.
func TestCornersRefused(t *testing.T) {
	refused := func(l []api.Vec, w, h int) {
		t.Helper()
		if corners, e := Corners(l, w, h); len(corners) != 0 || e != api.ErrView {
			t.Error(l, w, h, corners, e)
		}
	}
	good := api.Vec{1, 2, 3, 4096}
	for _, s := range notSizes() {
		refused(nil, s[0], s[1])
		refused([]api.Vec{}, s[0], s[1])
		refused([]api.Vec{good}, s[0], s[1])
		refused([]api.Vec{good, {}}, s[0], s[1])
	}
	for _, s := range sizes() {
		for _, bad := range unseen() {
			refused([]api.Vec{bad}, s[0], s[1])
			refused([]api.Vec{bad, bad}, s[0], s[1])
			for i := range 4 {
				l := []api.Vec{good, good, good, good}
				l[i] = bad
				refused(l, s[0], s[1])
			}
		}
	}
}

// P10.3: 16 subpixels a pixel either way, whatever the depth.
func TestPixel(t *testing.T) {
	for _, s := range append(sizes(), [2]int{3, 6}) {
		w, h := s[0], s[1]
		for sx := -40; sx < w*16+40; sx++ {
			for _, sy := range []int{-17, -16, -15, -1, 0, 1, 15, 16, 17, h * 8, h*16 - 17, h*16 - 1, h * 16, h*16 + 1} {
				wantX, wantY := int(math.Floor(float64(sx)/16)), int(math.Floor(float64(sy)/16))
				want := wantX >= 0 && wantX < w && wantY >= 0 && wantY < h
				if !want {
					wantX, wantY = 0, 0
				}
				for _, z := range []int64{0, -1, 1 << 30, top, bottom} {
					x, y, is := Pixel(api.Corner{X: int64(sx), Y: int64(sy), Z: z}, w, h)
					if x != wantX || y != wantY || is != want {
						t.Fatal(sx, sy, z, s, x, y, is)
					}
				}
			}
		}
	}
}

// P10.3: each row of an image.
func TestPixelRows(t *testing.T) {
	for sy := int64(-50); sy < 64*16+50; sy++ {
		x, y, is := Pixel(api.Corner{X: 37, Y: sy}, 3, 64)
		if want := sy >= 0 && sy < 1024; is != want || want && (x != 2 || int64(y) != sy>>4) || !want && (x != 0 || y != 0) {
			t.Error(sy, x, y, is)
		}
	}
}

// P10.3: no such pixel, and no such image.
func TestPixelNone(t *testing.T) {
	none := func(c api.Corner, w, h int) {
		t.Helper()
		if x, y, is := Pixel(c, w, h); x != 0 || y != 0 || is {
			t.Error(c, w, h, x, y, is)
		}
	}
	if x, y, is := Pixel(api.Corner{X: 32, Y: 16}, 4, 2); x != 2 || y != 1 || !is {
		t.Error(x, y, is)
	}
	none(api.Corner{X: 64}, 4, 2)
	none(api.Corner{X: 63, Y: -1}, 4, 2)
	for _, n := range []int64{-1, -15, -16, 32, 64, 1 << 32, 1<<32 + 5, 1 << 36, 1<<36 + 80, top, bottom, -1 << 32} {
		none(api.Corner{X: n, Y: 5}, 2, 2)
		none(api.Corner{X: 5, Y: n}, 2, 2)
		none(api.Corner{X: n, Y: n}, 2, 2)
	}
	for _, s := range notSizes() {
		for _, c := range []api.Corner{{}, {X: 5, Y: 5}, {X: 1, Y: 31, Z: 7}, {X: -1}, {Y: 1100}} {
			none(c, s[0], s[1])
		}
	}
}

// corner is that of a vertex that may be seen.
func corner(t *testing.T, v api.Vec, w, h int) api.Corner {
	t.Helper()
	c, e := Corner(v, w, h)
	if e != api.OK {
		t.Fatal(v, w, h, e)
	}
	return c
}

// P10.5: a vertex times a whole number above 0 has the same corner.
func TestTimes(t *testing.T) {
	r := rand.New(rand.NewSource(4))
	more := 0
	for range 20000 {
		v := some(r)
		w, h := size(r)
		most := int64(api.Far-1) / max(v[0], -v[0], v[1], -v[1], v[2], -v[2], v[3])
		times := 1 + r.Int63n(most)
		u := api.Vec{v[0] * times, v[1] * times, v[2] * times, v[3] * times}
		if corner(t, u, w, h) != corner(t, v, w, h) {
			t.Fatal(v, times, w, h)
		}
		if times > 1 {
			more++
		}
	}
	if more < 10000 {
		t.Error(more)
	}
}

// P10.5: X is from -16W to 32W, Y from -16H to 32H, and each of these is some vertex'.
func TestRange(t *testing.T) {
	r := rand.New(rand.NewSource(5))
	for range 20000 {
		v := some(r)
		w, h := size(r)
		c := corner(t, v, w, h)
		if c.X < -16*int64(w) || c.X > 32*int64(w) || c.Y < -16*int64(h) || c.Y > 32*int64(h) || c.Z < 0 || c.Z > api.MaxDepth {
			t.Fatal(v, w, h, c)
		}
	}
	for w := 1; w <= 64; w++ {
		n := int64(w)
		if c := corner(t, api.Vec{-12288, 12288, 0, 4096}, w, 65-w); c.X != -16*n || c.Y != -16*(65-n) {
			t.Error(w, c)
		}
		if c := corner(t, api.Vec{12288, -12288, 0, 4096}, w, 65-w); c.X != 32*n || c.Y != 32*(65-n) {
			t.Error(w, c)
		}
	}
}

// P10.5: farther to the right no less X, farther up no greater Y, deeper no less Z.
func TestFarther(t *testing.T) {
	r := rand.New(rand.NewSource(6))
	compared := 0
	for range 20000 {
		v, u := some(r), some(r)
		u[3] = v[3]
		if r.Intn(2) == 0 {
			u = api.Vec{v[0] + r.Int63n(5), v[1] + r.Int63n(5), v[2] + r.Int63n(5), v[3]}
		}
		if !seenWanted(u) {
			continue
		}
		compared++
		w, h := size(r)
		c, d := corner(t, v, w, h), corner(t, u, w, h)
		for _, ends := range []struct{ from, to, a, b int64 }{{v[0], u[0], c.X, d.X}, {v[1], u[1], -c.Y, -d.Y}, {v[2], u[2], c.Z, d.Z}} {
			if ends.from <= ends.to && ends.a > ends.b || ends.from >= ends.to && ends.a < ends.b || ends.from == ends.to && ends.a != ends.b {
				t.Fatal(v, u, w, h)
			}
		}
	}
	if compared < 10000 {
		t.Error(compared)
	}
}

// P10.5: a corner stands in a pixel just if x is from -w on, and below w, and y above -w, and w at most.
func TestStands(t *testing.T) {
	r := rand.New(rand.NewSource(7))
	stand := 0
	for range 50000 {
		v := some(r)
		w, h := size(r)
		_, _, is := Pixel(corner(t, v, w, h), w, h)
		x, y, by := v[0], v[1], v[3]
		if is != (x >= -by && x < by && y > -by && y <= by) {
			t.Fatal(v, w, h, is)
		}
		if is {
			stand++
		}
	}
	if stand < 2000 || stand > 48000 {
		t.Error(stand)
	}
}

// P10.5: what layer 9's Clip leaves may be seen.
func TestClipped(t *testing.T) {
	r := rand.New(rand.NewSource(8))
	left := 0
	for range 20000 {
		size := int64(1) << (12 + r.Intn(31))
		var tri [3]api.Vec
		for i := range tri {
			for k := range tri[i] {
				tri[i][k] = r.Int63n(2*size-1) - size + 1
			}
			// Little w is where x and y are the farthest beyond it.
			tri[i][3] = []int64{tri[i][3], r.Int63n(8192), size}[r.Intn(3)]
		}
		l, e := clip.Clip(tri[0], tri[1], tri[2])
		if e != api.OK {
			t.Fatal(tri, e)
		}
		corners, e := Corners(l, 64, 64)
		if len(corners) != len(l) || e != api.OK {
			t.Fatal(tri, l, e)
		}
		left += len(l)
	}
	if left < 10000 {
		t.Error(left)
	}
}

// P10.4: what is handed in is only read, and what is answered is new memory, with nothing of it kept.
func TestOnlyRead(t *testing.T) {
	r := rand.New(rand.NewSource(9))
	for n := range 100 {
		verts, l := make([][3]int64, n, n+1), make([]api.Vec, n, n+1)
		for i := range n {
			l[i] = some(r)
			verts[i] = [3]int64(l[i][:3])
		}
		verts, l = append(verts, [3]int64{55}), append(l, api.Vec{66})
		vertsBefore, lBefore := slices.Clone(verts), slices.Clone(l)
		through, _ := Through(matrix.Identity(), verts[:n])
		corners, _ := Corners(l[:n], 64, 64)
		again, _ := Through(matrix.Identity(), verts[:n])
		cornersAgain, _ := Corners(l[:n], 64, 64)
		if !slices.Equal(verts, vertsBefore) || !slices.Equal(l, lBefore) {
			t.Fatal("handed in, and changed")
		}
		throughBefore, cornersBefore := slices.Clone(through), slices.Clone(corners)
		for i := range n {
			verts[i], l[i] = [3]int64{77}, api.Vec{77}
		}
		if !slices.Equal(through, throughBefore) || !slices.Equal(corners, cornersBefore) {
			t.Fatal("what was answered hangs on what was handed in")
		}
		for i := range n {
			through[i], corners[i] = api.Vec{88}, api.Corner{X: 99}
		}
		if !slices.Equal(again, throughBefore) || !slices.Equal(cornersAgain, cornersBefore) {
			t.Fatal("two answers hang together")
		}
	}
}
