package cover

import (
	"math"
	"math/big"
	"math/rand"
	"slices"
	"testing"

	"mullion/api"
)

const (
	top    = math.MaxInt64
	bottom = math.MinInt64
)

// mayWanted says by the chapter's words whether a corner may be.
func mayWanted(c api.Corner) bool {
	return c.X >= -4096 && c.X <= 4096 && c.Y >= -4096 && c.Y <= 4096 && c.Z >= 0 && c.Z <= 1<<24-1
}

// sideWanted is the side of a place by the edge from a to b, without bounds.
func sideWanted(a, b api.Corner, x, y int64) *big.Int {
	from := func(n, m int64) *big.Int { return new(big.Int).Sub(big.NewInt(n), big.NewInt(m)) }
	right := new(big.Int).Mul(from(b.X, a.X), from(y, a.Y))
	return right.Sub(right, new(big.Int).Mul(from(b.Y, a.Y), from(x, a.X)))
}

// areaWanted is that of a triangle.
func areaWanted(t [3]api.Corner) *big.Int {
	return sideWanted(t[0], t[1], t[2].X, t[2].Y)
}

// ownsWanted says by the chapter's words whether an edge owns what lies on it.
func ownsWanted(a, b api.Corner) bool {
	up, down, right := b.Y < a.Y, b.Y > a.Y, b.X > a.X
	return up || right && !up && !down
}

// atWanted is how deep a triangle that may be is at a pixel, if it covers it, by the chapter's words.
func atWanted(t [3]api.Corner, x, y int) (uint32, bool) {
	a, b, c := t[0], t[1], t[2]
	area := areaWanted(t)
	switch area.Sign() {
	case 0:
		return 0, false
	case -1:
		return atWanted([3]api.Corner{a, c, b}, x, y)
	}
	sum := new(big.Int)
	for _, edge := range []struct {
		from, to api.Corner
		across   int64
	}{{a, b, c.Z}, {b, c, a.Z}, {c, a, b.Z}} {
		side := sideWanted(edge.from, edge.to, 16*int64(x)+8, 16*int64(y)+8)
		if side.Sign() < 0 || side.Sign() == 0 && !ownsWanted(edge.from, edge.to) {
			return 0, false
		}
		sum.Add(sum, side.Mul(side, big.NewInt(edge.across)))
	}
	// Div is rounded down, for the area is above 0.
	return uint32(sum.Div(sum, area).Int64()), true
}

// cellsWanted are all pixels of an image that a triangle that may be covers.
func cellsWanted(t [3]api.Corner, w, h int) []api.Cell {
	var l []api.Cell
	for y := range h {
		for x := range w {
			if z, is := atWanted(t, x, y); is {
				l = append(l, api.Cell{X: x, Y: y, Z: z})
			}
		}
	}
	return l
}

// cells are those of a triangle and a size that may be.
func cells(t *testing.T, tri [3]api.Corner, w, h int) []api.Cell {
	t.Helper()
	l, e := Cells(tri, w, h)
	if e != api.OK {
		t.Fatal(tri, w, h, e)
	}
	return l
}

// looked holds Cells and At of a triangle against the chapter's words, and hands its cells on.
func looked(t *testing.T, tri [3]api.Corner, w, h int) []api.Cell {
	t.Helper()
	want, l := cellsWanted(tri, w, h), cells(t, tri, w, h)
	if !slices.Equal(l, want) {
		t.Fatal(tri, w, h, l, want)
	}
	i := 0
	for y := range h {
		for x := range w {
			var wanted api.Cell
			covered := i < len(want) && want[i].X == x && want[i].Y == y
			if covered {
				wanted = want[i]
				i++
			}
			if z, is, e := At(tri, x, y); z != wanted.Z || is != covered || e != api.OK {
				t.Fatal(tri, x, y, z, is, e)
			}
		}
	}
	return l
}

// places are those of cells.
func places(l ...api.Cell) [][2]int {
	var p [][2]int
	for _, c := range l {
		p = append(p, [2]int{c.Y, c.X})
	}
	slices.SortFunc(p, func(a, b [2]int) int { return slices.Compare(a[:], b[:]) })
	return p
}

// number is one from -size to size, often where a pixel's centre or its edge is.
func number(r *rand.Rand, size int64) int64 {
	n := r.Int63n(2*size+1) - size
	if r.Intn(2) == 0 {
		n = n / 8 * 8
	}
	return n
}

// someDepth is one, often at a bound.
func someDepth(r *rand.Rand) int64 {
	return []int64{0, api.MaxDepth, r.Int63n(100), r.Int63n(api.MaxDepth + 1), r.Int63n(api.MaxDepth + 1)}[r.Intn(5)]
}

// some is a triangle that may be, of a size and at a place that are chosen by chance.
func some(r *rand.Rand) [3]api.Corner {
	size := int64(1) << r.Intn(13)
	x, y := r.Int63n(1100)-40, r.Int63n(1100)-40
	if r.Intn(3) > 0 {
		x, y = x%200, y%200
	}
	var t [3]api.Corner
	for i := range t {
		t[i] = api.Corner{X: x + number(r, size), Y: y + number(r, size), Z: someDepth(r)}
		t[i].X, t[i].Y = min(max(t[i].X, -4096), 4096), min(max(t[i].Y, -4096), 4096)
	}
	return t
}

// orders are those in which a triangle's corners may be named.
func orders(t [3]api.Corner) [6][3]api.Corner {
	a, b, c := t[0], t[1], t[2]
	return [6][3]api.Corner{{a, b, c}, {b, c, a}, {c, a, b}, {a, c, b}, {c, b, a}, {b, a, c}}
}

// notCorners are some that may not be: each number on its own, at either bound and beyond it.
func notCorners() []api.Corner {
	var l []api.Corner
	for _, n := range []int64{4097, -4097, 8192, 1 << 32, -1 << 32, 1<<32 + 5, top, bottom, bottom + 1} {
		l = append(l, api.Corner{X: n, Y: 5, Z: 6}, api.Corner{X: 4, Y: n, Z: 6}, api.Corner{X: n, Y: n, Z: 6})
	}
	for _, n := range []int64{-1, 1 << 24, 1<<24 + 1, -5, 1 << 32, 1<<32 + 5, top, bottom} {
		l = append(l, api.Corner{X: 4, Y: 5, Z: n}, api.Corner{X: -4096, Y: 4096, Z: n})
	}
	return append(l, api.Corner{X: top, Y: bottom, Z: top}, api.Corner{X: 4097, Y: 5, Z: -1})
}

// notTriangles are some of which one corner may not be, each in each place, or none.
func notTriangles() [][3]api.Corner {
	var l [][3]api.Corner
	good := [3]api.Corner{{X: 0, Y: 0, Z: 1}, {X: 90, Y: 0, Z: 2}, {X: 0, Y: 90, Z: 3}}
	for _, bad := range notCorners() {
		for i := range 3 {
			t := good
			t[i] = bad
			l = append(l, t)
		}
		l = append(l, [3]api.Corner{bad, bad, bad})
	}
	return l
}

// notPixels are numbers of none.
func notPixels() []int { return []int{-1, 64, 65, -64, 1 << 32, -1 << 32, 1<<32 + 5, top, bottom} }

// notSizes are numbers of pixels that no image has on a side.
func notSizes() []int { return []int{0, -1, 65, 66, -64, 1 << 32, 1<<32 + 5, top, bottom} }

// P11.1: each number from bound to bound.
func TestMay(t *testing.T) {
	edges := []int64{bottom, bottom + 1, -1 << 32, -8192, -4097, -4096, -4095, -2, -1, 0, 1, 2, 4095, 4096, 4097, 8192, 1<<24 - 2, 1<<24 - 1, 1 << 24, 1<<24 + 1, 1 << 32, 1<<32 + 1, top - 1, top}
	may := 0
	for _, x := range edges {
		for _, y := range edges {
			for _, z := range edges {
				c := api.Corner{X: x, Y: y, Z: z}
				if May(c) != mayWanted(c) {
					t.Error(c, May(c))
				}
				if May(c) {
					may++
				}
			}
		}
	}
	if may != 9*9*9 {
		t.Error(may)
	}
	for _, c := range notCorners() {
		if May(c) {
			t.Error(c)
		}
	}
}

// P11.1: the chapter's examples, and some that are told by hand.
func TestArea(t *testing.T) {
	tests := []struct {
		t    [3]api.Corner
		area int64
	}{
		{[3]api.Corner{{X: 0, Y: 0, Z: 0}, {X: 48, Y: 0, Z: 48}, {X: 0, Y: 48, Z: 96}}, 2304},
		{[3]api.Corner{{X: 0, Y: 0, Z: 0}, {X: 0, Y: 48, Z: 96}, {X: 48, Y: 0, Z: 48}}, -2304},
		{[3]api.Corner{{X: 5, Y: 7}, {X: 6, Y: 7}, {X: 5, Y: 8}}, 1},
		{[3]api.Corner{{X: 5, Y: 7}, {X: 5, Y: 8}, {X: 9, Y: 7}}, -4},
		{[3]api.Corner{{X: -4096, Y: -4096}, {X: 4096, Y: -4096}, {X: 4096, Y: 4096}}, 1 << 26},
		{[3]api.Corner{{X: -4096, Y: -4096}, {X: -4096, Y: 4096}, {X: 4096, Y: -4096}}, -1 << 26},
		{[3]api.Corner{{X: 1, Y: 1}, {X: 3, Y: 3}, {X: -7, Y: -7}}, 0},
		{[3]api.Corner{{X: 1, Y: 1, Z: 5}, {X: 1, Y: 1, Z: 6}, {X: 9, Y: 2}}, 0},
		{[3]api.Corner{}, 0},
	}
	for _, c := range tests {
		if n, e := Area(c.t); n != c.area || e != api.OK {
			t.Error(c, n, e)
		}
	}
	r := rand.New(rand.NewSource(1))
	for range 50000 {
		tri := some(r)
		if n, e := Area(tri); n != areaWanted(tri).Int64() || e != api.OK {
			t.Fatal(tri, n, e)
		}
	}
}

// P11.1: ErrCover, whichever corner may not be.
func TestAreaRefused(t *testing.T) {
	for _, tri := range notTriangles() {
		if n, e := Area(tri); n != 0 || e != api.ErrCover {
			t.Error(tri, n, e)
		}
	}
}

// P11.1: the chapter's examples, all ways, and corners that may not be.
func TestOwns(t *testing.T) {
	tests := []struct {
		a, b api.Corner
		owns bool
	}{
		{api.Corner{}, api.Corner{X: 5}, true},
		{api.Corner{X: 5}, api.Corner{}, false},
		{api.Corner{Y: 5}, api.Corner{X: 9, Y: 4}, true},
		{api.Corner{X: 3, Y: 4, Z: 5}, api.Corner{X: 3, Y: 4, Z: 5}, false},
		{api.Corner{X: 3, Y: 4, Z: 5}, api.Corner{X: 3, Y: 4, Z: 6}, false},
		{api.Corner{X: 9, Y: 4}, api.Corner{Y: 5}, false},
		{api.Corner{X: 9, Y: 5}, api.Corner{Y: 4}, true},
		{api.Corner{X: bottom}, api.Corner{X: top}, true},
		{api.Corner{X: top}, api.Corner{X: bottom}, false},
		{api.Corner{Y: top}, api.Corner{Y: bottom}, true},
		{api.Corner{Y: bottom}, api.Corner{Y: top}, false},
	}
	for _, c := range tests {
		if Owns(c.a, c.b) != c.owns {
			t.Error(c)
		}
	}
	edges := []int64{bottom, bottom + 1, -4097, -4096, -1, 0, 1, 4096, 4097, top - 1, top}
	for i := range 11 * 11 * 11 * 11 {
		a := api.Corner{X: edges[i%11], Y: edges[i/11%11], Z: edges[i%7]}
		b := api.Corner{X: edges[i/121%11], Y: edges[i/1331], Z: edges[i%5]}
		if Owns(a, b) != ownsWanted(a, b) {
			t.Error(a, b)
		}
	}
}

// P11.2, P11.3: the chapter's examples.
func TestExamples(t *testing.T) {
	tri := [3]api.Corner{{X: 0, Y: 0, Z: 0}, {X: 48, Y: 0, Z: 48}, {X: 0, Y: 48, Z: 96}}
	want := []api.Cell{{X: 0, Y: 0, Z: 24}, {X: 1, Y: 0, Z: 40}, {X: 0, Y: 1, Z: 56}}
	if l, e := Cells(tri, 4, 4); !slices.Equal(l, want) || e != api.OK {
		t.Error(l, e)
	}
	if l, e := Cells(tri, 1, 4); !slices.Equal(l, []api.Cell{want[0], want[2]}) || e != api.OK {
		t.Error(l, e)
	}
	if l, e := Cells(tri, 64, 1); !slices.Equal(l, want[:2]) || e != api.OK {
		t.Error(l, e)
	}
	for _, c := range want {
		if z, is, e := At(tri, c.X, c.Y); z != c.Z || !is || e != api.OK {
			t.Error(c, z, is, e)
		}
	}
	if z, is, e := At(tri, 1, 1); z != 0 || is || e != api.OK {
		t.Error(z, is, e)
	}
	if z, is, e := At(tri, 64, 0); z != 0 || is || e != api.ErrArg {
		t.Error(z, is, e)
	}
	tri[1].X = 4097
	if n, e := Area(tri); n != 0 || e != api.ErrCover {
		t.Error(n, e)
	}
}

// P11.2, P11.3: all triangles whose corners stand on few places, among them pixels' centres, so that edges go through these.
func TestAllSmall(t *testing.T) {
	const n = 5
	corner := func(i int, z int64) api.Corner {
		return api.Corner{X: int64(i%n)*8 + 8, Y: int64(i/n)*8 + 8, Z: z}
	}
	covered := 0
	for a := range n * n {
		for b := range n * n {
			for c := range n * n {
				tri := [3]api.Corner{corner(a, 7), corner(b, 4000), corner(c, api.MaxDepth)}
				covered += len(looked(t, tri, 3, 3))
			}
		}
	}
	if covered < 5000 {
		t.Error(covered)
	}
}

// P11.2, P11.3: by chance, of all sizes.
func TestByChance(t *testing.T) {
	r := rand.New(rand.NewSource(2))
	some64, none := 0, 0
	for i := range 3000 {
		w, h := 1+r.Intn(12), 1+r.Intn(12)
		if i%50 == 0 {
			w, h = 64-r.Intn(3), 64-r.Intn(3)
		}
		l := looked(t, some(r), w, h)
		if len(l) == 0 {
			none++
		}
		if len(l) > 0 && l[len(l)-1].Y > 40 {
			some64++
		}
	}
	if some64 < 10 || none < 300 || none > 2700 {
		t.Error(some64, none)
	}
}

// P11.2, P11.3: the greatest triangles cover all of the greatest image, whatever their depth.
func TestGreatest(t *testing.T) {
	for _, z := range [][3]int64{{100, 100, 100}, {0, 0, 0}, {api.MaxDepth, api.MaxDepth, api.MaxDepth}, {0, api.MaxDepth, 0}, {api.MaxDepth, 0, api.MaxDepth}} {
		tri := [3]api.Corner{{X: -4096, Y: -4096, Z: z[0]}, {X: 4096, Y: -4096, Z: z[1]}, {X: 0, Y: 4096, Z: z[2]}}
		if l := looked(t, tri, 64, 64); len(l) != 4096 {
			t.Error(z, len(l))
		}
		tri = [3]api.Corner{{X: 4096, Y: 4096, Z: z[0]}, {X: 4096, Y: -4096, Z: z[1]}, {X: -4096, Y: 0, Z: z[2]}}
		if l := looked(t, tri, 64, 64); len(l) != 4096 {
			t.Error(z, len(l))
		}
	}
}

// P11.3: a pixel is the triangle's whose edges own its centre: that of the left edge and the upper one.
func TestOneCentre(t *testing.T) {
	tests := []struct {
		t  [3]api.Corner
		is bool
	}{
		{[3]api.Corner{{X: 40, Y: 24}, {X: 60, Y: 24}, {X: 40, Y: 44}}, true},
		{[3]api.Corner{{X: 40, Y: 24}, {X: 40, Y: 44}, {X: 20, Y: 24}}, false},
		{[3]api.Corner{{X: 40, Y: 24}, {X: 40, Y: 4}, {X: 60, Y: 24}}, false},
		{[3]api.Corner{{X: 20, Y: 24}, {X: 60, Y: 24}, {X: 40, Y: 44}}, true},
		{[3]api.Corner{{X: 20, Y: 24}, {X: 60, Y: 24}, {X: 40, Y: 4}}, false},
		{[3]api.Corner{{X: 40, Y: 4}, {X: 40, Y: 44}, {X: 60, Y: 24}}, true},
		{[3]api.Corner{{X: 40, Y: 4}, {X: 40, Y: 44}, {X: 20, Y: 24}}, false},
		{[3]api.Corner{{X: 30, Y: 14}, {X: 50, Y: 34}, {X: 30, Y: 34}}, false},
		{[3]api.Corner{{X: 30, Y: 14}, {X: 50, Y: 34}, {X: 50, Y: 14}}, true},
		// The least ones: one corner is all that they have of any place.
		{[3]api.Corner{{X: 40, Y: 24}, {X: 41, Y: 24}, {X: 40, Y: 25}}, true},
		{[3]api.Corner{{X: 40, Y: 24}, {X: 41, Y: 24}, {X: 41, Y: 23}}, false},
		{[3]api.Corner{{X: 40, Y: 24}, {X: 40, Y: 24}, {X: 40, Y: 24}}, false},
		{[3]api.Corner{{X: 40, Y: 4}, {X: 40, Y: 24}, {X: 40, Y: 44}}, false},
		{[3]api.Corner{{X: 20, Y: 24}, {X: 60, Y: 24}, {X: 40, Y: 24}}, false},
	}
	for _, c := range tests {
		for _, tri := range orders(c.t) {
			looked(t, tri, 5, 5)
			if _, is, e := At(tri, 2, 1); is != c.is || e != api.OK {
				t.Error(tri, is, e)
			}
		}
	}
}

// nudged says whether a place a bit to the right of a pixel's centre, and a bit of that bit below it, is inside a triangle.
func nudged(t [3]api.Corner, x, y int) bool {
	// So many parts a subpixel that no edge which does not go through the centre comes between it and that place.
	const parts, bit = 1 << 30, 1 << 14
	px, py := (16*int64(x)+8)*parts+bit, (16*int64(y)+8)*parts+1
	above, below := 0, 0
	for i := range t {
		a, b := t[i], t[(i+1)%3]
		side := (b.X-a.X)*(py-a.Y*parts) - (b.Y-a.Y)*(px-a.X*parts)
		if side > 0 {
			above++
		}
		if side < 0 {
			below++
		}
	}
	return above == 3 || below == 3
}

// P11.2: who owns what lies on edges, told in another way: as if no centre lay on any.
func TestNudged(t *testing.T) {
	r := rand.New(rand.NewSource(3))
	covered, on := 0, 0
	for range 100000 {
		tri, x, y := some(r), r.Intn(14), r.Intn(14)
		_, is, e := At(tri, x, y)
		if is != nudged(tri, x, y) || e != api.OK {
			t.Fatal(tri, x, y, is, e)
		}
		if is {
			covered++
		}
		for i := range tri {
			if sideWanted(tri[i], tri[(i+1)%3], 16*int64(x)+8, 16*int64(y)+8).Sign() == 0 {
				on++
			}
		}
	}
	if covered < 5000 || on < 5000 {
		t.Error(covered, on)
	}
}

// P11.2: ErrArg, and that ahead of ErrCover.
func TestAtRefused(t *testing.T) {
	refused := func(tri [3]api.Corner, x, y int, want api.Errno) {
		t.Helper()
		if z, is, e := At(tri, x, y); z != 0 || is || e != want {
			t.Error(tri, x, y, z, is, e)
		}
	}
	good := [3]api.Corner{{X: -4096, Y: -4096, Z: 100}, {X: 4096, Y: -4096, Z: 100}, {Y: 4096, Z: 100}}
	for _, n := range notPixels() {
		refused(good, n, 0, api.ErrArg)
		refused(good, 0, n, api.ErrArg)
		refused(good, n, n, api.ErrArg)
		for _, bad := range notTriangles() {
			refused(bad, n, 0, api.ErrArg)
			refused(bad, 63, n, api.ErrArg)
		}
	}
	for _, bad := range notTriangles() {
		for _, p := range [][2]int{{0, 0}, {63, 63}, {0, 63}, {5, 7}} {
			refused(bad, p[0], p[1], api.ErrCover)
		}
	}
	for n := range 64 {
		for _, p := range [][2]int{{n, 0}, {0, n}, {n, 63 - n}, {63, n}} {
			if z, is, e := At(good, p[0], p[1]); z != 100 || !is || e != api.OK {
				t.Error(p, z, is, e)
			}
		}
	}
}

// P11.3: ErrArg, and that ahead of ErrCover.
func TestCellsRefused(t *testing.T) {
	refused := func(tri [3]api.Corner, w, h int, want api.Errno) {
		t.Helper()
		if l, e := Cells(tri, w, h); len(l) != 0 || e != want {
			t.Error(tri, w, h, l, e)
		}
	}
	good := [3]api.Corner{{X: -4096, Y: -4096, Z: 100}, {X: 4096, Y: -4096, Z: 100}, {Y: 4096, Z: 100}}
	for _, n := range notSizes() {
		refused(good, n, 1, api.ErrArg)
		refused(good, 1, n, api.ErrArg)
		refused(good, n, n, api.ErrArg)
		for _, bad := range notTriangles() {
			refused(bad, n, 1, api.ErrArg)
			refused(bad, 64, n, api.ErrArg)
		}
	}
	for _, bad := range notTriangles() {
		for _, s := range [][2]int{{1, 1}, {64, 64}, {1, 64}, {5, 7}} {
			refused(bad, s[0], s[1], api.ErrCover)
		}
	}
	for n := 1; n <= 64; n++ {
		for _, s := range [][2]int{{n, 1}, {1, n}, {n, 65 - n}, {64, n}} {
			if l := cells(t, good, s[0], s[1]); len(l) != s[0]*s[1] {
				t.Error(s, len(l))
			}
		}
	}
}

// P11.5: in which order the corners are named makes no difference.
func TestOrders(t *testing.T) {
	r := rand.New(rand.NewSource(4))
	covered := 0
	for range 20000 {
		tri := some(r)
		want := cells(t, tri, 10, 10)
		x, y := r.Intn(64), r.Intn(64)
		z, is, _ := At(tri, x, y)
		covered += len(want)
		for _, other := range orders(tri) {
			if l := cells(t, other, 10, 10); !slices.Equal(l, want) {
				t.Fatal(tri, other, l, want)
			}
			if u, its, e := At(other, x, y); u != z || its != is || e != api.OK {
				t.Fatal(tri, other, x, y, u, its, e)
			}
		}
	}
	if covered < 20000 {
		t.Error(covered)
	}
}

// P11.5: a depth is from the least to the greatest of the three, and theirs if they are alike.
func TestDepths(t *testing.T) {
	r := rand.New(rand.NewSource(5))
	covered := 0
	for range 20000 {
		tri := some(r)
		if r.Intn(4) == 0 {
			tri[1].Z, tri[2].Z = tri[0].Z, tri[0].Z
		}
		if r.Intn(4) == 0 {
			tri[1].Z = min(tri[0].Z+1, api.MaxDepth)
		}
		least, greatest := min(tri[0].Z, tri[1].Z, tri[2].Z), max(tri[0].Z, tri[1].Z, tri[2].Z)
		for _, c := range cells(t, tri, 10, 10) {
			covered++
			if int64(c.Z) < least || int64(c.Z) > greatest {
				t.Fatal(tri, c)
			}
		}
	}
	if covered < 20000 {
		t.Error(covered)
	}
}

// parted holds a triangle against the three into which a fourth corner parts it, and tells how many pixels it covers.
func parted(t *testing.T, tri [3]api.Corner, d api.Corner) int {
	t.Helper()
	a, b, c := tri[0], tri[1], tri[2]
	var l []api.Cell
	for _, part := range [][3]api.Corner{{a, b, d}, {b, c, d}, {c, a, d}} {
		l = append(l, cells(t, part, 12, 12)...)
	}
	want := places(cells(t, tri, 12, 12)...)
	if !slices.Equal(places(l...), want) {
		t.Fatal(tri, d, places(l...), want)
	}
	return len(want)
}

// P11.5: the three into which a corner in a triangle parts it cover what it covers, each pixel once.
func TestParted(t *testing.T) {
	r := rand.New(rand.NewSource(6))
	covered, asked := 0, 0
	for range 60000 {
		tri := some(r)
		d := api.Corner{X: 8 * r.Int63n(24), Y: 8 * r.Int63n(24), Z: someDepth(r)}
		if r.Intn(2) == 0 {
			d.X, d.Y = r.Int63n(192), r.Int63n(192)
		}
		sign := areaWanted(tri).Sign()
		// One of no area has its corners in a row, and nothing is in it.
		in := sign != 0
		for i := range tri {
			in = in && sideWanted(tri[i], tri[(i+1)%3], d.X, d.Y).Sign()*sign >= 0
		}
		if !in {
			continue
		}
		asked++
		covered += parted(t, tri, d)
	}
	if asked < 3000 || covered < 30000 {
		t.Error(asked, covered)
	}
}

// P11.5: so do those by a corner on its edge, or at one of its own.
func TestPartedOnEdge(t *testing.T) {
	r := rand.New(rand.NewSource(7))
	covered := 0
	for range 20000 {
		a := api.Corner{X: number(r, 100) + 90, Y: number(r, 100) + 90, Z: someDepth(r)}
		stepX, stepY, steps := number(r, 16), number(r, 16), 1+r.Int63n(12)
		b := api.Corner{X: a.X + steps*stepX, Y: a.Y + steps*stepY, Z: someDepth(r)}
		c := api.Corner{X: number(r, 100) + 90, Y: number(r, 100) + 90, Z: someDepth(r)}
		at := r.Int63n(steps + 1)
		d := api.Corner{X: a.X + at*stepX, Y: a.Y + at*stepY, Z: someDepth(r)}
		covered += parted(t, orders([3]api.Corner{a, b, c})[r.Intn(6)], d)
	}
	if covered < 50000 {
		t.Error(covered)
	}
}

// P11.5: two triangles on both sides of one edge share no pixel.
func TestNeighbours(t *testing.T) {
	r := rand.New(rand.NewSource(8))
	asked, both := 0, 0
	for range 60000 {
		one := some(r)
		other := one
		other[2] = api.Corner{X: number(r, 100) + 90, Y: number(r, 100) + 90, Z: someDepth(r)}
		if areaWanted(one).Sign()*areaWanted(other).Sign() >= 0 {
			continue
		}
		asked++
		l, m := cells(t, orders(one)[r.Intn(6)], 12, 12), cells(t, orders(other)[r.Intn(6)], 12, 12)
		all := places(append(l, m...)...)
		if len(slices.Compact(slices.Clone(all))) != len(all) {
			t.Fatal(one, other)
		}
		if len(l) > 0 && len(m) > 0 {
			both++
		}
	}
	if asked < 10000 || both < 1000 {
		t.Error(asked, both)
	}
}

// P11.5: what is moved by whole pixels covers what is moved by these, as deep as it was.
func TestMoved(t *testing.T) {
	r := rand.New(rand.NewSource(9))
	asked, covered := 0, 0
	for range 60000 {
		tri := some(r)
		dx, dy := r.Intn(64)-32, r.Intn(64)-32
		moved := tri
		for i := range moved {
			moved[i].X += 16 * int64(dx)
			moved[i].Y += 16 * int64(dy)
		}
		x, y := r.Intn(64), r.Intn(64)
		if r.Intn(3) > 0 {
			x, y = r.Intn(14), r.Intn(14)
		}
		if !mayWanted(moved[0]) || !mayWanted(moved[1]) || !mayWanted(moved[2]) || x+dx < 0 || x+dx > 63 || y+dy < 0 || y+dy > 63 {
			continue
		}
		asked++
		z, is, e := At(tri, x, y)
		zMoved, isMoved, eMoved := At(moved, x+dx, y+dy)
		if z != zMoved || is != isMoved || e != api.OK || eMoved != api.OK {
			t.Fatal(tri, x, y, dx, dy)
		}
		if is {
			covered++
		}
	}
	if asked < 10000 || covered < 1000 {
		t.Error(asked, covered)
	}
}

// P11.4: what is answered is new memory, with nothing of it kept.
func TestNewMemory(t *testing.T) {
	r := rand.New(rand.NewSource(10))
	covered := 0
	for range 1000 {
		tri := some(r)
		l, again := cells(t, tri, 12, 12), cells(t, tri, 12, 12)
		want := slices.Clone(again)
		covered += len(want)
		for i := range l {
			l[i] = api.Cell{X: 77, Y: 88, Z: 99}
		}
		if !slices.Equal(again, want) || !slices.Equal(cells(t, tri, 12, 12), want) {
			t.Fatal("two answers hang together")
		}
	}
	if covered < 1000 {
		t.Error(covered)
	}
}
