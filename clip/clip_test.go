package clip

import (
	"math"
	"math/big"
	"math/rand"
	"slices"
	"testing"

	"mullion/api"
)

const (
	top    = math.MaxInt64
	bottom = math.MinInt64
)

// whole is a number without bounds.
func whole(n int64) *big.Int { return big.NewInt(n) }

// mayWanted says by the chapter's words whether a vertex may be.
func mayWanted(v api.Vec) bool {
	far := new(big.Int).Lsh(whole(1), 43)
	for _, n := range v {
		if whole(n).CmpAbs(far) >= 0 {
			return false
		}
	}
	return true
}

// distWanted is the distance, by the chapter's list: how often each of x, y, z and w is in it.
func distWanted(plane int, v api.Vec) int64 {
	times := [Planes][4]int64{{0, 0, 0, 1}, {0, 0, 1, 0}, {0, 0, -1, 1}, {1, 0, 0, 2}, {-1, 0, 0, 2}, {0, 1, 0, 2}, {0, -1, 0, 2}}
	sum := new(big.Int)
	for i, n := range v {
		sum.Add(sum, new(big.Int).Mul(whole(n), whole(times[plane][i])))
	}
	if plane == 0 {
		sum.Sub(sum, whole(4096))
	}
	return sum.Int64()
}

// crossWanted is the crossing of a vertex that is inside and one that is not.
func crossWanted(plane int, in, out api.Vec) api.Vec {
	p, q := whole(distWanted(plane, in)), whole(distWanted(plane, out))
	by := new(big.Int).Sub(p, q)
	var c api.Vec
	for i := range c {
		way := new(big.Int).Sub(whole(out[i]), whole(in[i]))
		way.Mul(way, p)
		// Div is rounded down, for by is above 0.
		way.Div(way, by)
		c[i] = way.Add(way, whole(in[i])).Int64()
	}
	return c
}

// cutWanted is a polygon of vertices that may be, cut by a plane.
func cutWanted(l []api.Vec, plane int) []api.Vec {
	var left []api.Vec
	for i, v := range l {
		next := l[0]
		if i+1 < len(l) {
			next = l[i+1]
		}
		in, nextIn := distWanted(plane, v) >= 0, distWanted(plane, next) >= 0
		if in {
			left = append(left, v)
		}
		if in && !nextIn {
			left = append(left, crossWanted(plane, v, next))
		}
		if !in && nextIn {
			left = append(left, crossWanted(plane, next, v))
		}
	}
	return left
}

// edgeNumbers are those that stand where something changes.
func edgeNumbers() []int64 {
	return []int64{bottom, bottom + 1, -api.Far - 1, -api.Far, -api.Far + 1, -8193, -8192, -4096, -3, -2, -1, 0, 1, 2, 3, 4095, 4096, 4097, 8191, 8192, 8193, api.Far - 1, api.Far, api.Far + 1, top}
}

// notVertices are some that may not be: each number on its own, at either bound and beyond it.
func notVertices() []api.Vec {
	var l []api.Vec
	for i := range 4 {
		for _, n := range []int64{-api.Far, api.Far, -api.Far - 1, api.Far + 1, bottom, top} {
			v := api.Vec{7, 8, 9, 9000}
			v[i] = n
			l = append(l, v)
		}
	}
	return append(l, api.Vec{bottom, bottom, bottom, bottom}, api.Vec{top, top, top, top}, api.Vec{top, bottom, top, bottom})
}

// notPlanes are numbers of none.
func notPlanes() []int { return []int{-1, 7, 8, -7, top, bottom} }

// some is a vertex that may be, of a size that is chosen by chance.
func some(r *rand.Rand) api.Vec {
	size := int64(1) << r.Intn(44)
	var v api.Vec
	for i := range v {
		v[i] = r.Int63n(2*size-1) - size + 1
	}
	if r.Intn(3) == 0 {
		v[3] = api.Near + r.Int63n(4) - 1
	}
	if r.Intn(4) == 0 {
		v[r.Intn(3)] = []int64{0, -1, v[3], v[3] + 1, 2 * v[3], 2*v[3] + 1, -2 * v[3], -2*v[3] - 1}[r.Intn(8)]
	}
	if !mayWanted(v) {
		return some(r)
	}
	return v
}

// polygon is one of n vertices.
func polygon(r *rand.Rand, n int) []api.Vec {
	var l []api.Vec
	for range n {
		l = append(l, some(r))
	}
	return l
}

// P9.1: each number is above -Far and below Far.
func TestMay(t *testing.T) {
	for i := range 4 {
		for _, n := range edgeNumbers() {
			v := api.Vec{1, 2, 3, 4}
			v[i] = n
			if May(v) != mayWanted(v) {
				t.Error(v, May(v))
			}
		}
	}
	if m := int64(1<<43 - 1); !May(api.Vec{m, -m, m, -m}) || !May(api.Vec{-m, m, -m, m}) || !May(api.Vec{}) {
		t.Error("the greatest that may be")
	}
	for _, v := range notVertices() {
		if May(v) {
			t.Error(v)
		}
	}
}

// P9.1: the planes 0 to 6, by their distances.
func TestDist(t *testing.T) {
	v := api.Vec{1000, 20000, 300, 5000}
	for plane, want := range []int64{904, 300, 4700, 11000, 9000, 30000, -10000} {
		if d, e := Dist(plane, v); d != want || e != api.OK {
			t.Error(plane, d, e)
		}
	}
	if d, e := Dist(0, api.Vec{0, 0, 0, 4096}); d != 0 || e != api.OK {
		t.Error(d, e)
	}
	if d, e := Dist(4, api.Vec{5, 0, 0, 2}); d != -1 || e != api.OK {
		t.Error(d, e)
	}
	m := int64(api.Far - 1)
	for plane := range Planes {
		for bits := range 16 {
			var v api.Vec
			for i := range v {
				v[i] = m
				if bits>>i&1 == 1 {
					v[i] = -m
				}
			}
			if d, e := Dist(plane, v); d != distWanted(plane, v) || e != api.OK {
				t.Error(plane, v, d, e)
			}
		}
	}
}

// P9.1: by chance, at all sizes.
func TestDistByChance(t *testing.T) {
	r := rand.New(rand.NewSource(1))
	for range 5000 {
		plane, v := r.Intn(Planes), some(r)
		if d, e := Dist(plane, v); d != distWanted(plane, v) || e != api.OK {
			t.Fatal(plane, v, d, e)
		}
	}
}

// P9.1: ErrArg first, then ErrClip.
func TestDistRefused(t *testing.T) {
	for _, plane := range notPlanes() {
		for _, v := range append(notVertices(), api.Vec{}, api.Vec{1, 2, 3, 9000}) {
			if d, e := Dist(plane, v); d != 0 || e != api.ErrArg {
				t.Error(plane, v, d, e)
			}
		}
	}
	for plane := range Planes {
		for _, v := range notVertices() {
			if d, e := Dist(plane, v); d != 0 || e != api.ErrClip {
				t.Error(plane, v, d, e)
			}
		}
	}
}

// P9.1: the chapter's examples, and some of which the way is told by hand.
func TestCross(t *testing.T) {
	tests := []struct {
		plane       int
		in, out, at api.Vec
	}{
		{1, api.Vec{0, 0, 10, 8192}, api.Vec{0, 0, -5, 8192}, api.Vec{0, 0, 0, 8192}},
		{1, api.Vec{9, 0, 1, 1}, api.Vec{0, 0, -2, 1}, api.Vec{6, 0, 0, 1}},
		{1, api.Vec{0, 10, 1, 1}, api.Vec{10, 0, -2, 1}, api.Vec{3, 6, 0, 1}},
		{1, api.Vec{5, 6, 0, 7}, api.Vec{100, 100, -9, 100}, api.Vec{5, 6, 0, 7}},
		{0, api.Vec{0, 0, 0, 4097}, api.Vec{-1, 1, -3, 4095}, api.Vec{-1, 0, -2, 4096}},
		{2, api.Vec{0, 8, 4, 8}, api.Vec{1, 0, 12, 8}, api.Vec{0, 4, 8, 8}},
		{3, api.Vec{-1, 0, 0, 1}, api.Vec{-3, 3, 0, 1}, api.Vec{-2, 1, 0, 1}},
		{4, api.Vec{1, 0, 0, 1}, api.Vec{4, 3, 0, 1}, api.Vec{2, 1, 0, 1}},
		{5, api.Vec{0, -1, 0, 1}, api.Vec{0, -5, 0, 2}, api.Vec{0, -3, 0, 1}},
		{6, api.Vec{0, 2, 7, 1}, api.Vec{0, 3, 0, 1}, api.Vec{0, 2, 7, 1}},
	}
	for _, c := range tests {
		for _, ends := range [][2]api.Vec{{c.in, c.out}, {c.out, c.in}} {
			if v, e := Cross(c.plane, ends[0], ends[1]); v != c.at || e != api.OK {
				t.Error(c, v, e)
			}
		}
	}
}

// P9.1, P9.4: by chance; whichever of both is named first.
func TestCrossByChance(t *testing.T) {
	r := rand.New(rand.NewSource(2))
	crossed := 0
	for range 20000 {
		plane, a, b := r.Intn(Planes), some(r), some(r)
		in, out := a, b
		if distWanted(plane, a) < 0 {
			in, out = b, a
		}
		want, fault := api.Vec{}, api.ErrArg
		if distWanted(plane, in) >= 0 && distWanted(plane, out) < 0 {
			want, fault = crossWanted(plane, in, out), api.OK
			crossed++
		}
		v, e := Cross(plane, a, b)
		u, f := Cross(plane, b, a)
		if v != want || e != fault || u != want || f != fault {
			t.Fatal(plane, a, b, v, e, u, f)
		}
	}
	if crossed < 3000 {
		t.Error(crossed)
	}
}

// P9.1: between the farthest vertices that may be the products go beyond 64 bits.
func TestCrossFar(t *testing.T) {
	m := int64(api.Far - 1)
	for plane := range Planes {
		for bits := range 256 {
			var a, b api.Vec
			for i := range 4 {
				a[i], b[i] = m, m
				if bits>>i&1 == 1 {
					a[i] = -m + int64(i)
				}
				if bits>>(4+i)&1 == 1 {
					b[i] = -m
				}
			}
			if distWanted(plane, a) < 0 || distWanted(plane, b) >= 0 {
				continue
			}
			if v, e := Cross(plane, a, b); v != crossWanted(plane, a, b) || e != api.OK {
				t.Error(plane, a, b, v, e)
			}
		}
	}
}

// P9.1: the errors of both Dists, and then ErrArg, unless just one of both is inside.
func TestCrossRefused(t *testing.T) {
	in, out := api.Vec{0, 0, 8192, 8192}, api.Vec{0, 0, 1, -1}
	refused := func(plane int, a, b api.Vec, want api.Errno) {
		t.Helper()
		if v, e := Cross(plane, a, b); v != (api.Vec{}) || e != want {
			t.Error(plane, a, b, v, e)
		}
	}
	for _, bad := range notVertices() {
		for _, plane := range notPlanes() {
			refused(plane, in, out, api.ErrArg)
			refused(plane, bad, in, api.ErrArg)
			refused(plane, in, bad, api.ErrArg)
			refused(plane, bad, bad, api.ErrArg)
		}
		for plane := range Planes {
			refused(plane, bad, in, api.ErrClip)
			refused(plane, in, bad, api.ErrClip)
			refused(plane, bad, out, api.ErrClip)
			refused(plane, out, bad, api.ErrClip)
			refused(plane, bad, bad, api.ErrClip)
		}
	}
	for plane := range Planes {
		refused(plane, in, in, api.ErrArg)
	}
	refused(0, out, out, api.ErrArg)
	// A distance of 0 is inside, and -1 is not.
	for _, z := range []int64{0, 1} {
		refused(1, api.Vec{0, 0, 0, 8192}, api.Vec{0, 0, z, 8192}, api.ErrArg)
		refused(1, api.Vec{0, 0, z, 8192}, api.Vec{0, 0, 0, 8192}, api.ErrArg)
	}
	refused(1, api.Vec{0, 0, -1, 8192}, api.Vec{0, 0, -1, 8192}, api.ErrArg)
	if v, e := Cross(1, api.Vec{3, 0, 0, 8192}, api.Vec{9, 0, -1, 8192}); v != (api.Vec{3, 0, 0, 8192}) || e != api.OK {
		t.Error(v, e)
	}
}

// P9.2: going round from the first vertex on: one that is inside, then where its edge crosses.
func TestCut(t *testing.T) {
	at := func(x, z int64) api.Vec { return api.Vec{x, 0, z, 8192} }
	tests := []struct{ l, left []api.Vec }{
		{nil, nil},
		{[]api.Vec{}, nil},
		{[]api.Vec{at(1, 0)}, []api.Vec{at(1, 0)}},
		{[]api.Vec{at(1, -1)}, nil},
		{[]api.Vec{at(0, 4), at(4, -4)}, []api.Vec{at(0, 4), at(2, 0), at(2, 0)}},
		{[]api.Vec{at(4, -4), at(0, 4)}, []api.Vec{at(2, 0), at(0, 4), at(2, 0)}},
		{[]api.Vec{at(0, 4), at(4, -4), at(8, 4)}, []api.Vec{at(0, 4), at(2, 0), at(6, 0), at(8, 4)}},
		{[]api.Vec{at(4, -4), at(8, 4), at(0, 4)}, []api.Vec{at(6, 0), at(8, 4), at(0, 4), at(2, 0)}},
		{[]api.Vec{at(8, 4), at(0, 4), at(4, -4)}, []api.Vec{at(8, 4), at(0, 4), at(2, 0), at(6, 0)}},
		{[]api.Vec{at(0, -4), at(4, 4), at(8, -4)}, []api.Vec{at(2, 0), at(4, 4), at(6, 0)}},
		{[]api.Vec{at(0, 0), at(4, 0), at(8, 0)}, []api.Vec{at(0, 0), at(4, 0), at(8, 0)}},
		{[]api.Vec{at(0, 0), at(4, -4), at(8, 0)}, []api.Vec{at(0, 0), at(0, 0), at(8, 0), at(8, 0)}},
		{[]api.Vec{at(0, 5), at(4, 6), at(8, 7), at(9, 1)}, []api.Vec{at(0, 5), at(4, 6), at(8, 7), at(9, 1)}},
		{[]api.Vec{at(0, -5), at(4, -6), at(8, -7), at(9, -1)}, nil},
	}
	for _, c := range tests {
		if left, e := Cut(c.l, 1); !slices.Equal(left, c.left) || e != api.OK {
			t.Error(c.l, left, e)
		}
	}
}

// P9.2: by chance, of all lengths.
func TestCutByChance(t *testing.T) {
	r := rand.New(rand.NewSource(3))
	for i := range 2000 {
		l, plane := polygon(r, i%101), r.Intn(Planes)
		if left, e := Cut(l, plane); !slices.Equal(left, cutWanted(l, plane)) || e != api.OK {
			t.Fatal(plane, l, left, e)
		}
	}
}

// P9.2: of 100 vertices, each second one inside, 150 are left.
func TestCutMost(t *testing.T) {
	var l []api.Vec
	for i := range int64(100) {
		l = append(l, api.Vec{i, -i, 1 - 2*(i%2), 8192})
	}
	left, e := Cut(l, 1)
	if len(left) != 150 || !slices.Equal(left, cutWanted(l, 1)) || e != api.OK {
		t.Error(len(left), e)
	}
}

// P9.2: ErrArg, of planes and lengths; then ErrClip, whichever vertex it is.
func TestCutRefused(t *testing.T) {
	good := api.Vec{1, 2, 3, 9000}
	refused := func(l []api.Vec, plane int, want api.Errno) {
		t.Helper()
		if left, e := Cut(l, plane); len(left) != 0 || e != want {
			t.Error(len(l), plane, left, e)
		}
	}
	for _, plane := range notPlanes() {
		refused(nil, plane, api.ErrArg)
		refused([]api.Vec{good, good, good}, plane, api.ErrArg)
		refused(notVertices(), plane, api.ErrArg)
	}
	for plane := range Planes {
		refused(slices.Repeat([]api.Vec{good}, 101), plane, api.ErrArg)
		refused(slices.Repeat([]api.Vec{good}, 1000), plane, api.ErrArg)
		refused(slices.Repeat(notVertices()[:1], 101), plane, api.ErrArg)
		refused(slices.Repeat(notVertices()[:1], 100), plane, api.ErrClip)
		for _, bad := range notVertices() {
			refused([]api.Vec{bad}, plane, api.ErrClip)
			for i := range 4 {
				l := []api.Vec{good, {0, 0, 5, -9}, good, {30000, -30000, -3, 9000}}
				l[i] = bad
				refused(l, plane, api.ErrClip)
			}
		}
	}
}

// inAll says whether a vertex is inside all planes.
func inAll(v api.Vec) bool {
	for plane := range Planes {
		if distWanted(plane, v) < 0 {
			return false
		}
	}
	return true
}

// clipWanted is a triangle, cut by one plane behind the other.
func clipWanted(a, b, c api.Vec) []api.Vec {
	l := []api.Vec{a, b, c}
	for plane := range Planes {
		if len(l) > 0 {
			l = cutWanted(l, plane)
		}
	}
	return l
}

// within looks at P9.4's bounds of what a triangle leaves.
func within(t *testing.T, tri [3]api.Vec, left []api.Vec) {
	t.Helper()
	if len(left) > 42 {
		t.Error(tri, len(left))
	}
	for _, v := range left {
		for i, n := range v {
			if n < min(tri[0][i], tri[1][i], tri[2][i]) || n > max(tri[0][i], tri[1][i], tri[2][i]) {
				t.Error(tri, v)
			}
		}
		x, y, z, w := v[0], v[1], v[2], v[3]
		if w < api.Near || z < 0 || z > w || max(x, -x) > 2*w+16 || max(y, -y) > 2*w+16 {
			t.Error(tri, v)
		}
	}
}

// looked clips a triangle, and looks at all that is promised of it.
func looked(t *testing.T, tri [3]api.Vec) []api.Vec {
	t.Helper()
	left, e := Clip(tri[0], tri[1], tri[2])
	if !slices.Equal(left, clipWanted(tri[0], tri[1], tri[2])) || e != api.OK {
		t.Error(tri, left, e)
	}
	within(t, tri, left)
	if inAll(tri[0]) && inAll(tri[1]) && inAll(tri[2]) && !slices.Equal(left, tri[:]) {
		t.Error(tri, left)
	}
	for plane := range Planes {
		if max(distWanted(plane, tri[0]), distWanted(plane, tri[1]), distWanted(plane, tri[2])) < 0 && len(left) != 0 {
			t.Error(tri, plane, left)
		}
	}
	return left
}

// P9.2, P9.4: some triangles by hand: one that is as it was, one beyond each plane, one that sticks out everywhere.
func TestClip(t *testing.T) {
	w := int64(1 << 16)
	as := [3]api.Vec{{0, 0, 0, w}, {2 * w, -2 * w, w, w}, {-8192, 8192, 4096, 4096}}
	if left := looked(t, as); len(left) != 3 {
		t.Error(left)
	}
	beyond := []api.Vec{{0, 0, 1, 4095}, {0, 0, -1, w}, {0, 0, w + 1, w}, {-2*w - 1, 0, 1, w}, {2*w + 1, 0, 1, w}, {0, -2*w - 1, 1, w}, {0, 2*w + 1, 1, w}}
	for plane, v := range beyond {
		if left := looked(t, [3]api.Vec{v, v, v}); len(left) != 0 {
			t.Error(plane, left)
		}
		if left := looked(t, [3]api.Vec{as[0], v, as[1]}); len(left) < 3 {
			t.Error(plane, left)
		}
	}
	if left := looked(t, [3]api.Vec{{-3 * w, 0, w / 2, w}, {3 * w, 0, w / 2, w}, {0, 3 * w, w / 2, w}}); len(left) != 6 {
		t.Error(left)
	}
	// Its last corner is cut off by one plane behind the other.
	if left := looked(t, [3]api.Vec{{20480, -24576, 8192, 12288}, {-16384, -4096, 4096, 24576}, {-8192, 32768, 0, -16384}}); len(left) != 9 {
		t.Error(left)
	}
}

// P9.2, P9.4: by chance, at all sizes, and about the bounds.
func TestClipByChance(t *testing.T) {
	r := rand.New(rand.NewSource(4))
	most, nothing := 0, 0
	for range 30000 {
		left := looked(t, [3]api.Vec{some(r), some(r), some(r)})
		most = max(most, len(left))
		if len(left) == 0 {
			nothing++
		}
		if t.Failed() {
			return
		}
	}
	if most < 7 || nothing < 1000 || nothing > 29000 {
		t.Error(most, nothing)
	}
}

// P9.4: of like size, so that most triangles stick out of several planes.
func TestClipAcross(t *testing.T) {
	r := rand.New(rand.NewSource(5))
	for range 30000 {
		w := api.Near + r.Int63n(int64(1)<<r.Intn(20)+1)
		var tri [3]api.Vec
		for i := range tri {
			tri[i] = api.Vec{r.Int63n(8*w) - 4*w, r.Int63n(8*w) - 4*w, r.Int63n(3*w) - w, r.Int63n(3*w) - w}
		}
		looked(t, tri)
		if t.Failed() {
			return
		}
	}
}

// P9.2: ErrClip, whichever of the three may not be.
func TestClipRefused(t *testing.T) {
	good := api.Vec{1, 2, 3, 9000}
	for _, bad := range notVertices() {
		for _, tri := range [][3]api.Vec{{bad, good, good}, {good, bad, good}, {good, good, bad}, {bad, bad, bad}, {bad, {}, {}}, {{}, bad, {}}, {{}, {}, bad}} {
			if left, e := Clip(tri[0], tri[1], tri[2]); len(left) != 0 || e != api.ErrClip {
				t.Error(tri, left, e)
			}
		}
	}
}

// P9.2: the first vertex stands in all triangles; fewer than three have none.
func TestFan(t *testing.T) {
	r := rand.New(rand.NewSource(6))
	for n := range 200 {
		l := polygon(r, n)
		var want [][3]api.Vec
		for i := 1; i+1 < n; i++ {
			want = append(want, [3]api.Vec{l[0], l[i], l[i+1]})
		}
		if fan := Fan(l); !slices.Equal(fan, want) || len(fan) != max(0, n-2) {
			t.Error(n, fan)
		}
	}
	far := api.Vec{top, bottom, top, bottom}
	if fan := Fan([]api.Vec{far, {1}, far, {2}}); !slices.Equal(fan, [][3]api.Vec{{far, {1}, far}, {far, far, {2}}}) {
		t.Error(fan)
	}
	if fan := Fan(nil); len(fan) != 0 {
		t.Error(fan)
	}
}

// P9.3: what is handed in is only read, and what is answered is new memory, with nothing of it kept.
func TestOnlyRead(t *testing.T) {
	r := rand.New(rand.NewSource(7))
	inner := []api.Vec{{0, 0, 9, 9000}, {5, 5, 8, 9000}, {9, -9, 7, 9000}, {-9, 9, 6, 9000}}
	for i := range 100 {
		l, plane := polygon(r, 3+i), r.Intn(Planes)
		if i > 96 {
			l = slices.Clone(inner)
		}
		l = l[:len(l)-1]
		before := slices.Clone(l[:len(l)+1])
		left, _ := Cut(l, plane)
		fan := Fan(l)
		leftBefore, fanBefore := slices.Clone(left), slices.Clone(fan)
		if !slices.Equal(l[:len(l)+1], before) {
			t.Fatal("handed in, and changed")
		}
		again, _ := Cut(l, plane)
		fanAgain := Fan(l)
		for i := range l {
			l[i] = api.Vec{77}
		}
		if !slices.Equal(left, leftBefore) || !slices.Equal(fan, fanBefore) {
			t.Fatal("what was answered hangs on what was handed in")
		}
		for i := range left {
			left[i] = api.Vec{88}
		}
		for i := range fan {
			fan[i] = [3]api.Vec{{99}}
		}
		if l[0] != (api.Vec{77}) || !slices.Equal(again, leftBefore) || !slices.Equal(fanAgain, fanBefore) {
			t.Fatal("two answers hang together")
		}
	}
	a, b, c := inner[0], inner[1], inner[2]
	one, _ := Clip(a, b, c)
	two, _ := Clip(a, b, c)
	one[0] = api.Vec{}
	if two[0] != a {
		t.Error("two answers hang together")
	}
}
