package scene

import (
	"math"
	"math/big"
	"math/rand"
	"reflect"
	"slices"
	"sort"
	"testing"

	"mullion/api"
	"mullion/matrix"
)

const (
	top    = math.MaxInt64
	bottom = math.MinInt64
)

// diagonal is n on the diagonal.
func diagonal(n int64) api.Matrix {
	return api.Matrix{{n}, {0, n}, {0, 0, n}, {0, 0, 0, n}}
}

func filled(n int64) api.Matrix {
	row := api.Vec{n, n, n, n}
	return api.Matrix{row, row, row, row}
}

// sample is the chapter's: one object.
func sample() api.Scene {
	return api.Scene{W: 4, H: 3, Camera: diagonal(api.One), Objects: []api.Object{plain(7)}}
}

// plain is an object that may be.
func plain(id int) api.Object {
	return api.Object{
		ID:    id,
		M:     diagonal(api.One),
		Verts: [][3]int64{{1, 2, 3}, {4, 5, 6}, {7, 8, 9}},
		Tris:  []api.Tri{{A: 0, B: 1, C: 2, Color: 5}},
	}
}

// full is as many of all as may be, at the bounds of what may be.
func full() api.Scene {
	s := api.Scene{W: 64, H: 64, Camera: diagonal(1 << 24)}
	for k := range 16 {
		o := api.Object{ID: 65535 - k, M: diagonal(1 << 18)}
		for range 64 {
			o.Verts = append(o.Verts, [3]int64{1 << 30, -1 << 30, int64(k)})
			o.Tris = append(o.Tris, api.Tri{A: 63, B: 63, C: 63, Color: math.MaxUint32})
		}
		s.Objects = append(s.Objects, o)
	}
	s.Objects[15].ID = 1
	return s
}

// deep is a copy by other means.
func deep(s api.Scene) api.Scene {
	c := s
	c.Objects = make([]api.Object, len(s.Objects))
	for k, o := range s.Objects {
		c.Objects[k] = o
		c.Objects[k].Verts = make([][3]int64, len(o.Verts))
		copy(c.Objects[k].Verts, o.Verts)
		c.Objects[k].Tris = make([]api.Tri, len(o.Tris))
		copy(c.Objects[k].Tris, o.Tris)
	}
	return c
}

// bothWanted is Camera times M without bounds.
func bothWanted(a, b api.Matrix) [4][4]*big.Int {
	var both [4][4]*big.Int
	for row := range 4 {
		for column := range 4 {
			sum := new(big.Int)
			for k := range 4 {
				sum.Add(sum, new(big.Int).Mul(big.NewInt(a[row][k]), big.NewInt(b[k][column])))
			}
			both[row][column] = sum.Div(sum, big.NewInt(1<<16)) // Euclid's: down
		}
	}
	return both
}

// within says whether all numbers of a product are.
func within(both [4][4]*big.Int, bound int64) bool {
	for _, row := range both {
		for _, n := range row {
			if n.CmpAbs(big.NewInt(bound)) > 0 {
				return false
			}
		}
	}
	return true
}

func matrixWithin(m api.Matrix, bound int64) bool {
	for _, row := range m {
		for _, n := range row {
			if n > bound || n < -bound {
				return false
			}
		}
	}
	return true
}

// breaks says by the chapter's words whether the k-th object breaks a rule from 4 on.
func breaks(s api.Scene, rule, k int) bool {
	o := s.Objects[k]
	switch rule {
	case 4:
		twins := 0
		for _, other := range s.Objects[:k] {
			if other.ID == o.ID {
				twins++
			}
		}
		return twins > 0 || o.ID < 1 || o.ID > 65535
	case 5:
		return !matrixWithin(o.M, 1<<24)
	case 6:
		return !within(bothWanted(s.Camera, o.M), 1<<26)
	case 7:
		for _, v := range o.Verts {
			for _, n := range v {
				if n > 1<<30 || n < -1<<30 {
					return true
				}
			}
		}
		return len(o.Verts) > 64
	}
	for _, t := range o.Tris {
		if min(t.A, t.B, t.C) < 0 || max(t.A, t.B, t.C) >= len(o.Verts) {
			return true
		}
	}
	return len(o.Tris) > 64
}

// wrongWanted is what Wrong should answer.
func wrongWanted(s api.Scene) (rule, at int) {
	switch {
	case min(s.W, s.H) < 1 || max(s.W, s.H) > 64:
		return 1, -1
	case !matrixWithin(s.Camera, 1<<24):
		return 2, -1
	case len(s.Objects) > 16:
		return 3, -1
	}
	for rule := 4; rule <= 8; rule++ {
		for k := range s.Objects {
			if breaks(s, rule, k) {
				return rule, k
			}
		}
	}
	return 0, -1
}

// holdWrong holds Check and Wrong against a rule and a place.
func holdWrong(t *testing.T, name string, s api.Scene, rule, at int) {
	t.Helper()
	if gotRule, gotAt := Wrong(s); gotRule != rule || gotAt != at {
		t.Errorf("%s: Wrong is %d %d, not %d %d", name, gotRule, gotAt, rule, at)
	}
	want := api.ErrScene
	if rule == 0 {
		want = api.OK
	}
	if e := Check(s); e != want {
		t.Errorf("%s: Check is %d, not %d", name, e, want)
	}
}

// P6.1: the chapter's examples.
func TestExamples(t *testing.T) {
	holdWrong(t, "nothing", sample(), 0, -1)
	s := sample()
	s.W = 65
	holdWrong(t, "W 65", s, 1, -1)
	s = sample()
	s.Objects[0].ID = 0
	holdWrong(t, "the ID 0", s, 4, 0)
	s = sample()
	s.Objects = append(s.Objects, plain(7))
	holdWrong(t, "two of ID 7", s, 4, 1)
	s = sample()
	s.Objects[0].Tris[0].C = 3
	holdWrong(t, "C 3", s, 8, 0)
	s = sample()
	s.Camera, s.Objects[0].M = diagonal(1<<24), diagonal(1<<24)
	holdWrong(t, "both 2^24", s, 6, 0)
}

// P6.1: each rule at its edges, of a scene that is else full.
func TestEdges(t *testing.T) {
	holdWrong(t, "full", full(), 0, -1)
	holdWrong(t, "nothing in it", api.Scene{W: 1, H: 1}, 0, -1)
	holdWrong(t, "zero", api.Scene{}, 1, -1)
	cases := []struct {
		name     string
		rule, at int
		turn     func(s *api.Scene)
	}{
		{"W 1", 0, -1, func(s *api.Scene) { s.W = 1 }},
		{"H 1", 0, -1, func(s *api.Scene) { s.H = 1 }},
		{"W 0", 1, -1, func(s *api.Scene) { s.W = 0 }},
		{"H 0", 1, -1, func(s *api.Scene) { s.H = 0 }},
		{"H 65", 1, -1, func(s *api.Scene) { s.H = 65 }},
		{"W below 0", 1, -1, func(s *api.Scene) { s.W = -4 }},
		{"H least", 1, -1, func(s *api.Scene) { s.H = bottom }},
		{"camera beyond", 2, -1, func(s *api.Scene) { s.Camera[3][0] = 1<<24 + 1 }},
		{"camera below", 2, -1, func(s *api.Scene) { s.Camera[0][3] = -1<<24 - 1 }},
		{"camera at its bounds", 0, -1, func(s *api.Scene) { s.Camera[0][0], s.Camera[3][3] = -1<<24, 1<<24 }},
		{"17 objects", 3, -1, func(s *api.Scene) { s.Objects = append(s.Objects, plain(3)) }},
		{"the ID 65536", 4, 3, func(s *api.Scene) { s.Objects[3].ID = 65536 }},
		{"the ID -1", 4, 15, func(s *api.Scene) { s.Objects[15].ID = -1 }},
		{"IDs the same", 4, 9, func(s *api.Scene) { s.Objects[9].ID = s.Objects[2].ID }},
		{"M beyond", 5, 2, func(s *api.Scene) { s.Objects[2].M[1][2] = 1<<24 + 1 }},
		{"M below", 5, 0, func(s *api.Scene) { s.Objects[0].M[3][3] = -1<<24 - 1 }},
		{"M the least", 5, 1, func(s *api.Scene) { s.Objects[1].M[0][0] = bottom }},
		{"both beyond", 6, 4, func(s *api.Scene) { s.Objects[4].M[0][0] = 1<<18 + 1 }},
		{"both at its bound below", 0, -1, func(s *api.Scene) { s.Objects[4].M[0][0] = -1 << 18 }},
		{"both below", 6, 5, func(s *api.Scene) { s.Objects[5].M[2][0] = -1<<18 - 1 }},
		{"both 1 beyond", 6, 7, func(s *api.Scene) { s.Camera[0][1], s.Objects[7].M[1][0] = 1<<16, 1 }},
		{"both 1 below", 6, 8, func(s *api.Scene) { s.Camera[1][1], s.Camera[1][2], s.Objects[8].M[2][1] = -1<<24, -1<<16, 1 }},
		{"x beyond", 7, 6, func(s *api.Scene) { s.Objects[6].Verts[0][0] = 1<<30 + 1 }},
		{"z below", 7, 15, func(s *api.Scene) { s.Objects[15].Verts[63][2] = -1<<30 - 1 }},
		{"y the least", 7, 0, func(s *api.Scene) { s.Objects[0].Verts[31][1] = bottom }},
		{"65 vertices", 7, 1, func(s *api.Scene) { s.Objects[1].Verts = append(s.Objects[1].Verts, [3]int64{}) }},
		{"65 triangles", 8, 2, func(s *api.Scene) { s.Objects[2].Tris = append(s.Objects[2].Tris, api.Tri{}) }},
		{"A 64", 8, 3, func(s *api.Scene) { s.Objects[3].Tris[0].A = 64 }},
		{"B 64", 8, 3, func(s *api.Scene) { s.Objects[3].Tris[63].B = 64 }},
		{"C 64", 8, 3, func(s *api.Scene) { s.Objects[3].Tris[31].C = 64 }},
		{"A -1", 8, 4, func(s *api.Scene) { s.Objects[4].Tris[0].A = -1 }},
		{"B -1", 8, 4, func(s *api.Scene) { s.Objects[4].Tris[0].B = -1 }},
		{"C -1", 8, 4, func(s *api.Scene) { s.Objects[4].Tris[0].C = -1 }},
		{"A 0", 0, -1, func(s *api.Scene) { s.Objects[4].Tris[0] = api.Tri{} }},
		{"no vertices", 8, 5, func(s *api.Scene) { s.Objects[5].Verts = nil }},
		{"no triangles", 0, -1, func(s *api.Scene) { s.Objects[5].Tris = nil }},
		{"neither", 0, -1, func(s *api.Scene) { s.Objects[5].Verts, s.Objects[5].Tris = nil, [](api.Tri){} }},
	}
	for _, c := range cases {
		s := full()
		c.turn(&s)
		holdWrong(t, c.name, s, c.rule, c.at)
	}
}

// faults are turns of the object at a place by each of which one rule, from 1 on, is broken.
func faults(s *api.Scene, at int) []func() {
	return []func(){
		func() { s.H = 65 },
		func() { s.Camera[1][1] = bottom },
		func() { s.Objects = append(s.Objects, full().Objects...) },
		func() { s.Objects[at].ID = 0 },
		func() { s.Objects[at].M[2][1] = top },
		func() { s.Objects[at].M = diagonal(1 << 24) },
		func() { s.Objects[at].Verts[2][2] = top },
		func() { s.Objects[at].Tris[0].B = bottom },
	}
}

// P6.1: of two rules that are broken the lesser one counts, whichever object breaks it; of objects that break one, the first.
func TestLeastRule(t *testing.T) {
	for first := range 8 {
		for second := range 8 {
			for _, at := range [][2]int{{3, 12}, {12, 3}, {5, 5}} {
				s := full()
				// Objects come behind the others, so that no place changes.
				faults(&s, at[0])[first]()
				faults(&s, at[1])[second]()
				rule, place := 1+first, at[0]
				switch {
				case second < first:
					rule, place = 1+second, at[1]
				case second == first:
					place = min(at[0], at[1])
				}
				if rule <= 3 {
					place = -1
				}
				// Of one object these two undo each other, as both set its matrix.
				if at[0] == at[1] && min(first, second) == 4 && max(first, second) == 5 {
					rule, place = wrongWanted(s)
				}
				holdWrong(t, "two faults", s, rule, place)
			}
		}
	}
}

// number is one near a bound, or far from it.
func number(r *rand.Rand, bound int64) int64 {
	numbers := []int64{0, 1, -1, bound, -bound, bound - 1, 1 - bound, r.Int63n(bound), -r.Int63n(bound), bound / 64}
	n := numbers[r.Intn(len(numbers))]
	if r.Intn(60) == 0 {
		n += r.Int63n(3) - 1
	}
	return n
}

func someMatrix(r *rand.Rand, bound int64) api.Matrix {
	m := diagonal(bound)
	for range r.Intn(6) {
		m[r.Intn(4)][r.Intn(4)] = number(r, bound)
	}
	return m
}

// some is a scene of few rules broken.
func some(r *rand.Rand) api.Scene {
	s := api.Scene{W: 1 + r.Intn(64), H: 1 + r.Intn(64), Camera: someMatrix(r, 1<<(14+r.Intn(11)))}
	for k := range r.Intn(5) {
		o := api.Object{ID: 9*k + r.Intn(11), M: someMatrix(r, 1<<(14+r.Intn(11)))}
		for range 1 + r.Intn(4) {
			o.Verts = append(o.Verts, [3]int64{number(r, 1<<30), number(r, 1<<30), number(r, 1<<30)})
		}
		size := len(o.Verts)
		for range r.Intn(4) {
			o.Tris = append(o.Tris, api.Tri{A: r.Intn(size), B: r.Intn(size), C: r.Intn(size), Color: r.Uint32()})
		}
		if len(o.Tris) > 0 && r.Intn(8) == 0 {
			o.Tris[0].B = size - 1 + r.Intn(2)
		}
		s.Objects = append(s.Objects, o)
	}
	if r.Intn(20) == 0 {
		s.W = r.Intn(70) - 2
	}
	return s
}

// P6.1, P6.4, P6.5: scenes by chance against the chapter's words; none is written to; what may be is found, and goes not beyond its bounds.
func TestSome(t *testing.T) {
	r := rand.New(rand.NewSource(6))
	seen := make([]int, 9)
	for range 20000 {
		s := some(r)
		before := deep(s)
		rule, at := wrongWanted(s)
		seen[rule]++
		holdWrong(t, "some", s, rule, at)
		if !reflect.DeepEqual(deep(s), before) {
			t.Fatal("written to")
		}
		if rule == 0 {
			holdBounds(t, s)
		}
	}
	for rule, times := range seen {
		if times == 0 && rule != 3 {
			t.Errorf("rule %d was never broken", rule)
		}
	}
}

// holdBounds holds a scene that may be against P6.5.
func holdBounds(t *testing.T, s api.Scene) {
	t.Helper()
	for k, o := range s.Objects {
		if at, is := Find(s, o.ID); at != k || !is {
			t.Errorf("object %d is found at %d, %v", k, at, is)
		}
		both, e := Both(s, k)
		if e != api.OK {
			t.Errorf("both of %d: %d", k, e)
		}
		for _, v := range o.Verts {
			seen, e := matrix.Apply(both, api.Vec{v[0], v[1], v[2], api.One})
			if e != api.OK || min(seen[0], seen[1], seen[2], seen[3]) <= -1<<43 || max(seen[0], seen[1], seen[2], seen[3]) >= 1<<43 {
				t.Errorf("vertex %v is %v, %d", v, seen, e)
			}
		}
	}
}

// P6.5: the greatest numbers that may be.
func TestBounds(t *testing.T) {
	s := full()
	for k := range s.Objects {
		s.Objects[k].M = filled(1 << 16)
		for at := range s.Objects[k].Verts {
			s.Objects[k].Verts[at] = [3]int64{1 << 30, 1 << 30, 1 << 30}
		}
	}
	s.Camera = filled(1 << 24)
	holdWrong(t, "greatest", s, 0, -1)
	holdBounds(t, s)
	s.Camera = filled(-1 << 24)
	holdWrong(t, "least", s, 0, -1)
	holdBounds(t, s)
}

// P6.1: names.
func TestName(t *testing.T) {
	want := map[int]string{1: "size", 2: "camera", 3: "objects", 4: "ids", 5: "matrix", 6: "both", 7: "vertices", 8: "triangles"}
	for _, rule := range []int{bottom, -1, 0, 1, 2, 3, 4, 5, 6, 7, 8, 9, 10, top} {
		if got := Name(rule); got != want[rule] {
			t.Errorf("rule %d is %q, not %q", rule, got, want[rule])
		}
	}
}

// P6.2: Camera times M, on this side, whatever else is wrong with the scene.
func TestBoth(t *testing.T) {
	r := rand.New(rand.NewSource(62))
	for range 3000 {
		s := api.Scene{Camera: someMatrix(r, 1<<(1+r.Intn(63)-1)), Objects: []api.Object{plain(0), {M: someMatrix(r, 1<<r.Intn(63))}}}
		both := bothWanted(s.Camera, s.Objects[1].M)
		var want api.Matrix
		wantErr := api.ErrScene
		if within(both, 1<<62) && matrixWithin(s.Camera, 1<<62) && matrixWithin(s.Objects[1].M, 1<<62) {
			wantErr = api.OK
			for row := range 4 {
				for column := range 4 {
					want[row][column] = both[row][column].Int64()
				}
			}
		}
		if got, e := Both(s, 1); got != want || e != wantErr {
			t.Fatalf("%v by %v: %v %d, not %v %d", s.Camera, s.Objects[1].M, got, e, want, wantErr)
		}
	}
	s := sample()
	s.Camera, s.Objects[0].M = matrix.Move(1, 2, 3), matrix.Scale(-api.One, api.One, 2*api.One)
	if got, e := Both(s, 0); e != api.OK || got != (api.Matrix{{-1 << 16, 0, 0, 1}, {0, 1 << 16, 0, 2}, {0, 0, 2 << 16, 3}, {3: 1 << 16}}) {
		t.Error(got, e)
	}
	for _, k := range []int{-1, 1, bottom, top} {
		if got, e := Both(s, k); e != api.ErrScene || got != (api.Matrix{}) {
			t.Errorf("object %d: %v %d", k, got, e)
		}
	}
	if _, e := Both(api.Scene{}, 0); e != api.ErrScene {
		t.Error(e)
	}
	s.Camera, s.Objects[0].M = filled(1<<24), filled(1<<24)
	if got, e := Both(s, 0); e != api.OK || got != filled(1<<34) {
		t.Error("more than MaxBoth:", got, e)
	}
}

// P6.2: the first one of an ID.
func TestFind(t *testing.T) {
	s := api.Scene{Objects: []api.Object{plain(9), plain(-3), plain(4), plain(9), plain(0), plain(4)}}
	cases := []struct {
		id, at int
		is     bool
	}{{9, 0, true}, {-3, 1, true}, {4, 2, true}, {0, 4, true}, {1, 0, false}, {3, 0, false}, {top, 0, false}}
	for _, c := range cases {
		if at, is := Find(s, c.id); at != c.at || is != c.is {
			t.Errorf("%d is at %d, %v", c.id, at, is)
		}
	}
	if at, is := Find(api.Scene{}, 0); at != 0 || is {
		t.Error(at, is)
	}
}

// P6.2: rising, each as often as it is there.
func TestIDs(t *testing.T) {
	s := api.Scene{Objects: []api.Object{plain(9), plain(-3), plain(4), plain(9), plain(70000), plain(4)}}
	if got := IDs(s); !slices.Equal(got, []int{-3, 4, 4, 9, 9, 70000}) {
		t.Error(got)
	}
	if got := IDs(api.Scene{W: 3}); len(got) != 0 {
		t.Error(got)
	}
	r := rand.New(rand.NewSource(63))
	for range 200 {
		var s api.Scene
		var want []int
		for range r.Intn(40) {
			id := r.Intn(30) - 5
			s.Objects = append(s.Objects, api.Object{ID: id})
			want = append(want, id)
		}
		sort.Ints(want)
		if got := IDs(s); !slices.Equal(got, want) {
			t.Fatal(got, want)
		}
	}
}

// P6.2: all have together.
func TestCount(t *testing.T) {
	s := sample()
	s.Objects = append(s.Objects, api.Object{}, api.Object{Tris: make([]api.Tri, 70)}, api.Object{Verts: make([][3]int64, 90)})
	for _, c := range []struct {
		s           api.Scene
		verts, tris int
	}{{s, 93, 71}, {full(), 1024, 1024}, {sample(), 3, 1}, {api.Scene{W: 5, H: 5}, 0, 0}} {
		if verts, tris := Count(c.s); verts != c.verts || tris != c.tris {
			t.Error(verts, tris, c.verts, c.tris)
		}
	}
}

// P6.3, P6.4: a copy is the same, and shares nothing.
func TestCopy(t *testing.T) {
	r := rand.New(rand.NewSource(64))
	for range 500 {
		s := some(r)
		before := deep(s)
		c := Copy(s)
		if !reflect.DeepEqual(deep(c), before) {
			t.Fatal(c, before)
		}
		spoil(&c)
		if !reflect.DeepEqual(deep(s), before) {
			t.Fatal("shared")
		}
	}
	odd := api.Scene{W: -1, H: 1000, Camera: filled(top), Objects: []api.Object{{ID: -5}, {ID: -5}}}
	if !reflect.DeepEqual(deep(Copy(odd)), deep(odd)) {
		t.Error("what may not be has a copy too")
	}
	if c := Copy(api.Scene{}); !reflect.DeepEqual(deep(c), deep(api.Scene{})) {
		t.Error(c)
	}
}

// P6.4: what a list has room for behind its end is no one's but its own.
func TestRoom(t *testing.T) {
	s := sample()
	s.Objects = make([]api.Object, 0, 4)
	room := api.Object{Verts: make([][3]int64, 0, 4), Tris: make([]api.Tri, 0, 4)}
	s.Objects = append(s.Objects, room)
	c := Copy(s)
	c.Objects[0].Verts = append(c.Objects[0].Verts, [3]int64{1, 1, 1})
	c.Objects[0].Tris = append(c.Objects[0].Tris, api.Tri{A: 1})
	c.Objects = append(c.Objects, plain(5))
	if room.Verts[:1][0] != [3]int64{} || room.Tris[:1][0] != (api.Tri{}) || s.Objects[:2][1].ID != 0 {
		t.Error("shared")
	}
}

// spoil turns each number of a scene's lists.
func spoil(s *api.Scene) {
	for k := range s.Objects {
		o := &s.Objects[k]
		for at := range o.Verts {
			o.Verts[at] = [3]int64{-7, -7, -7}
		}
		for at := range o.Tris {
			o.Tris[at] = api.Tri{A: -7, B: -7, C: -7}
		}
		o.ID, o.M = -7, filled(-7)
	}
}

// P6.3: what differs in any place is another one; nil lists are as empty ones.
func TestSame(t *testing.T) {
	turns := []func(s *api.Scene){
		func(s *api.Scene) { s.W++ },
		func(s *api.Scene) { s.H++ },
		func(s *api.Scene) { s.W, s.H = s.H, s.W },
		func(s *api.Scene) { s.Camera[3][3]++ },
		func(s *api.Scene) { s.Objects = append(s.Objects, plain(9)) },
		func(s *api.Scene) { s.Objects = s.Objects[:1] },
		func(s *api.Scene) { s.Objects = nil },
		func(s *api.Scene) { s.Objects[0], s.Objects[1] = s.Objects[1], s.Objects[0] },
		func(s *api.Scene) { s.Objects[1].ID++ },
		func(s *api.Scene) { s.Objects[1].M[0][0]++ },
		func(s *api.Scene) { s.Objects[1].Verts[2][2]++ },
		func(s *api.Scene) { s.Objects[0].Verts = append(s.Objects[0].Verts, [3]int64{}) },
		func(s *api.Scene) { s.Objects[0].Verts = nil },
		func(s *api.Scene) { s.Objects[0].Tris[0].A++ },
		func(s *api.Scene) { s.Objects[0].Tris[0].B++ },
		func(s *api.Scene) { s.Objects[0].Tris[0].C++ },
		func(s *api.Scene) { s.Objects[1].Tris[0].Color++ },
		func(s *api.Scene) { s.Objects[1].Tris = append(s.Objects[1].Tris, api.Tri{}) },
		func(s *api.Scene) { s.Objects[1].Tris = nil },
	}
	base := func() api.Scene {
		s := sample()
		s.Objects = append(s.Objects, plain(8))
		return s
	}
	for k, turn := range turns {
		a, b := base(), base()
		if !Same(a, b) || !Same(a, a) {
			t.Fatal("not the same")
		}
		turn(&b)
		if Same(a, b) || Same(b, a) {
			t.Errorf("turn %d: the same", k)
		}
	}
	nils := api.Scene{Objects: []api.Object{{}}}
	empty := api.Scene{Objects: []api.Object{{Verts: [][3]int64{}, Tris: []api.Tri{}}}}
	if !Same(nils, empty) || !Same(empty, nils) || !Same(api.Scene{}, api.Scene{Objects: []api.Object{}}) {
		t.Error("nil lists are as empty ones")
	}
}

// P6.4: a new list each time; nothing that is handed in is turned.
func TestOnlyRead(t *testing.T) {
	s := full()
	before := deep(s)
	first := IDs(s)
	first[0] = -1
	if IDs(s)[0] != 1 {
		t.Error("kept")
	}
	Check(s)
	Wrong(s)
	Find(s, 1)
	Count(s)
	Same(s, s)
	Copy(s)
	both, _ := Both(s, 0)
	both[0][0]++
	if !reflect.DeepEqual(s, before) {
		t.Error("turned")
	}
}
