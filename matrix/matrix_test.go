package matrix

import (
	"math"
	"math/big"
	"math/rand"
	"testing"

	"mullion/api"
)

const (
	one    = int64(api.One)
	half   = one / 2
	most   = int64(api.MaxBits)
	top    = int64(math.MaxInt64)
	bottom = int64(math.MinInt64)
)

var (
	noMatrix = api.Matrix{}
	noVec    = api.Vec{}
)

// filled is n in all places.
func filled(n int64) api.Matrix {
	row := api.Vec{n, n, n, n}
	return api.Matrix{row, row, row, row}
}

// vec is numbers of all lengths up to that many bits, with either sign.
func vec(r *rand.Rand, longest int) api.Vec {
	var v api.Vec
	for at := range v {
		v[at] = r.Int63n(1<<r.Intn(longest+1) + 1)
		if r.Intn(2) == 0 {
			v[at] = -v[at]
		}
	}
	return v
}

func matrix(r *rand.Rand, longest int) api.Matrix {
	var m api.Matrix
	for row := range m {
		m[row] = vec(r, longest)
	}
	return m
}

// exact is what P3.1 says of row by column, without bounds.
func exact(row, column api.Vec) *big.Int {
	sum := new(big.Int)
	for at := range row {
		sum.Add(sum, new(big.Int).Mul(big.NewInt(row[at]), big.NewInt(column[at])))
	}
	return sum.Div(sum, big.NewInt(one)) // Euclid's, which is down, for One is above 0
}

func mayBe(numbers ...int64) bool {
	for _, n := range numbers {
		if n < -most || n > most {
			return false
		}
	}
	return true
}

// vecWanted is what Apply should answer.
func vecWanted(m api.Matrix, v api.Vec) (api.Vec, api.Errno) {
	var want api.Vec
	for at, row := range m {
		n := exact(row, v)
		if !mayBe(row[:]...) || !mayBe(v[:]...) || !n.IsInt64() || !mayBe(n.Int64()) {
			return noVec, api.ErrMatrix
		}
		want[at] = n.Int64()
	}
	return want, api.OK
}

// matrixWanted is what Mul should answer.
func matrixWanted(a, b api.Matrix) (api.Matrix, api.Errno) {
	var want api.Matrix
	for column := range 4 {
		v, e := vecWanted(a, api.Vec{b[0][column], b[1][column], b[2][column], b[3][column]})
		if e != api.OK {
			return noMatrix, e
		}
		for row := range 4 {
			want[row][column] = v[row]
		}
	}
	return want, api.OK
}

func checkMul(t *testing.T, a, b, want api.Matrix, wantErr api.Errno) {
	t.Helper()
	if m, e := Mul(a, b); m != want || e != wantErr {
		t.Fatalf("Mul(%v, %v): %v, %v; not %v, %v", a, b, m, e, want, wantErr)
	}
}

func checkApply(t *testing.T, m api.Matrix, v, want api.Vec, wantErr api.Errno) {
	t.Helper()
	if applied, e := Apply(m, v); applied != want || e != wantErr {
		t.Fatalf("Apply(%v, %v): %v, %v; not %v, %v", m, v, applied, e, want, wantErr)
	}
}

// cross is a row by a column, and what it should come to.
type cross struct {
	row, column api.Vec
	n           int64
	e           api.Errno
}

// checkCross holds products against it, in which the row stands at each place, the column at one.
func checkCross(t *testing.T, l []cross) {
	t.Helper()
	for _, x := range l {
		for at := range 4 {
			var m api.Matrix
			var want api.Vec
			m[at], want[at] = x.row, x.n
			checkApply(t, m, x.column, want, x.e)
			checkMul(t, m, Across(api.Matrix{1: x.column}), Across(api.Matrix{1: want}), x.e)
		}
	}
}

// P3.1: each number is held against the bound, on both sides, wherever it stands.
func TestCheck(t *testing.T) {
	for _, bound := range []int64{0, 1, 5, api.MaxEntry, api.MaxBoth, most, top - 1, top} {
		for _, n := range []int64{bound, -bound, 0} {
			if e := Check(filled(n), bound); e != api.OK {
				t.Errorf("%d within %d: %v", n, bound, e)
			}
		}
		beyond := []int64{bottom}
		if bound < top {
			beyond = append(beyond, bound+1, -bound-1, top)
		}
		for at := range 16 {
			for _, n := range beyond {
				m := filled(-bound)
				m[at/4][at%4] = n
				if e := Check(m, bound); e != api.ErrMatrix {
					t.Errorf("%d at %d within %d: %v", n, at, bound, e)
				}
			}
		}
	}
}

// P3.1: no number is within a bound below 0, be it its opposite, or itself.
func TestCheckBelowNothing(t *testing.T) {
	for _, bound := range []int64{-1, -5, -top, bottom, bottom + 1} {
		for _, n := range []int64{0, 1, -1, bound, -bound, top, bottom} {
			if e := Check(filled(n), bound); e != api.ErrMatrix {
				t.Errorf("%d within %d: %v", n, bound, e)
			}
		}
	}
}

// P3.1: a row of the one by a column of the other, at its own place.
func TestMul(t *testing.T) {
	a := api.Matrix{{1 * one, 2 * one, 3 * one, 4 * one}, {5 * one, 6 * one, 7 * one, 8 * one}, {-1 * one, 0, one, 2 * one}, {half, 0, 0, one}}
	b := api.Matrix{{1, 0, 2, -1}, {0, 10, 0, 3}, {100, 0, 7, 0}, {0, 0, 1000, 5}}
	checkMul(t, a, b, api.Matrix{
		{301, 20, 4023, 25},
		{705, 60, 8059, 53},
		{99, 0, 2005, 11},
		{0, 0, 1001, 4},
	}, api.OK)
	checkMul(t, Move(1, 2, 3), Scale(one, 2*one, -one), api.Matrix{{one, 0, 0, 1}, {0, 2 * one, 0, 2}, {0, 0, -one, 3}, {0, 0, 0, one}}, api.OK)
	checkMul(t, Scale(one, 2*one, -one), Move(1, 2, 3), api.Matrix{{one, 0, 0, 1}, {0, 2 * one, 0, 4}, {0, 0, -one, -3}, {0, 0, 0, one}}, api.OK)
	checkMul(t, noMatrix, filled(most), noMatrix, api.OK)
}

// P3.1: rows of a matrix by a vector.
func TestApply(t *testing.T) {
	checkApply(t, Move(1, 2, 3), api.Vec{10, 20, 30, 65536}, api.Vec{11, 22, 33, 65536}, api.OK)
	checkApply(t, Move(one, 2*one, 3*one), api.Vec{10, 20, 30, 0}, api.Vec{10, 20, 30, 0}, api.OK)
	checkApply(t, Scale(-1, 1, 1), api.Vec{1, 1, 1, 1}, api.Vec{-1, 0, 0, 1}, api.OK)
	m := api.Matrix{{one, 2 * one, 3 * one, 4 * one}, {0, one, 0, 0}, {-one, -one, -one, -one}, {0, 0, half, half}}
	checkApply(t, m, api.Vec{5, 6, 7, 8}, api.Vec{70, 6, -26, 7}, api.OK)
	checkApply(t, noMatrix, api.Vec{most, -most, most, -most}, noVec, api.OK)
}

// P3.1: the sum is rounded, not each of its products, and down.
func TestRoundedOnce(t *testing.T) {
	quarter := one / 4
	checkCross(t, []cross{
		{api.Vec{quarter, quarter, quarter, quarter}, api.Vec{1, 1, 1, 1}, 1, api.OK},
		{api.Vec{quarter, quarter, quarter, quarter - 1}, api.Vec{1, 1, 1, 1}, 0, api.OK},
		{api.Vec{quarter, quarter, quarter, quarter}, api.Vec{-1, -1, -1, -1}, -1, api.OK},
		{api.Vec{quarter, quarter, quarter, quarter + 1}, api.Vec{-1, -1, -1, -1}, -2, api.OK},
		{api.Vec{1, 0, 0, 0}, api.Vec{-1, 0, 0, 0}, -1, api.OK},
		{api.Vec{half, half, 0, 0}, api.Vec{1, -1, 0, 0}, 0, api.OK},
		{api.Vec{half, half, half, 0}, api.Vec{-1, -1, -1, 0}, -2, api.OK},
		{api.Vec{one - 1, 0, 0, 1}, api.Vec{1, 0, 0, 1}, 1, api.OK},
	})
}

// P3.1: what is handed in has to be, wherever it stands, also if nothing comes of it.
func TestRefusesWhatMayNotBe(t *testing.T) {
	for _, n := range []int64{most + 1, -most - 1, top, bottom} {
		for at := range 16 {
			var m api.Matrix
			m[at/4][at%4] = n
			checkMul(t, m, noMatrix, noMatrix, api.ErrMatrix)
			checkMul(t, noMatrix, m, noMatrix, api.ErrMatrix)
			checkMul(t, m, m, noMatrix, api.ErrMatrix)
			checkApply(t, m, noVec, noVec, api.ErrMatrix)
		}
		for at := range 4 {
			var v api.Vec
			v[at] = n
			checkApply(t, noMatrix, v, noVec, api.ErrMatrix)
		}
	}
	for _, n := range []int64{most, -most} {
		checkMul(t, filled(n), noMatrix, noMatrix, api.OK)
		checkMul(t, noMatrix, filled(n), noMatrix, api.OK)
		checkApply(t, noMatrix, api.Vec{n, n, n, n}, noVec, api.OK)
	}
}

// P3.1: what comes out has to be: it hangs on the rounding on which side of the bounds it is; a sum may be beyond them on its way.
func TestRefusesWhatComesOut(t *testing.T) {
	checkCross(t, []cross{
		{api.Vec{one, 0, 0, 0}, api.Vec{most, 0, 0, 0}, most, api.OK},
		{api.Vec{one, 1, 0, 0}, api.Vec{most, one - 1, 0, 0}, most, api.OK},
		{api.Vec{one, 1, 0, 0}, api.Vec{most, one, 0, 0}, 0, api.ErrMatrix},
		{api.Vec{one, 0, 0, 0}, api.Vec{-most, 0, 0, 0}, -most, api.OK},
		{api.Vec{one, 1, 0, 0}, api.Vec{-most, -1, 0, 0}, 0, api.ErrMatrix},
		{api.Vec{one, 1, 0, 0}, api.Vec{-most, 1, 0, 0}, -most, api.OK},
		{api.Vec{most, most, 0, 0}, api.Vec{most, -most, 0, 0}, 0, api.OK},
		{api.Vec{most, most, -most, -most}, api.Vec{most, most, most, most}, 0, api.OK},
		{api.Vec{most, most, most, most}, api.Vec{most, most, most, most}, 0, api.ErrMatrix},
		{api.Vec{most, most, most, most}, api.Vec{-most, -most, -most, -most}, 0, api.ErrMatrix},
		// By 65536, these are 2^63, 2^64, 2^64 and 1, -2^64: in 64 bits the least one, 0, 1, 0.
		{api.Vec{2 * one, 0, 0, 0}, api.Vec{most, 0, 0, 0}, 0, api.ErrMatrix},
		{api.Vec{4 * one, 0, 0, 0}, api.Vec{most, 0, 0, 0}, 0, api.ErrMatrix},
		{api.Vec{4 * one, one, 0, 0}, api.Vec{most, 1, 0, 0}, 0, api.ErrMatrix},
		{api.Vec{4 * one, 0, 0, 0}, api.Vec{-most, 0, 0, 0}, 0, api.ErrMatrix},
	})
}

// P3.1: of any numbers.
func TestAgainstBig(t *testing.T) {
	r := rand.New(rand.NewSource(3))
	fine, refused := 0, 0
	for range 20000 {
		longest := r.Intn(63)
		a, b, v := matrix(r, 62), matrix(r, longest), vec(r, longest)
		if r.Intn(2) == 0 {
			a = matrix(r, 78-max(longest, 16))
		}
		want, e := matrixWanted(a, b)
		checkMul(t, a, b, want, e)
		if e == api.OK {
			fine++
		} else {
			refused++
		}
		applied, e := vecWanted(a, v)
		checkApply(t, a, v, applied, e)
	}
	if fine < 1000 || refused < 1000 {
		t.Error(fine, refused)
	}
}

// P3.2: the identity, and what moves and scales, by any numbers.
func TestMade(t *testing.T) {
	if m := Identity(); m != (api.Matrix{{65536, 0, 0, 0}, {0, 65536, 0, 0}, {0, 0, 65536, 0}, {0, 0, 0, 65536}}) {
		t.Error(m)
	}
	for _, x := range [][3]int64{{1, 2, 3}, {0, 0, 0}, {-one, one, half}, {most, -most, most + 1}, {top, bottom, -1}} {
		if m := Move(x[0], x[1], x[2]); m != (api.Matrix{{one, 0, 0, x[0]}, {0, one, 0, x[1]}, {0, 0, one, x[2]}, {0, 0, 0, one}}) {
			t.Error(x, m)
		}
		if m := Scale(x[0], x[1], x[2]); m != (api.Matrix{{x[0], 0, 0, 0}, {0, x[1], 0, 0}, {0, 0, x[2], 0}, {0, 0, 0, one}}) {
			t.Error(x, m)
		}
	}
}

// P3.2: a quarter about each axis, and where it takes what.
func TestTurn(t *testing.T) {
	for _, x := range []struct {
		axis, quarters int
		want           api.Vec // of 5 7 9 11
	}{
		{0, 0, api.Vec{5, 7, 9, 11}}, {0, 1, api.Vec{5, -9, 7, 11}}, {0, 2, api.Vec{5, -7, -9, 11}}, {0, 3, api.Vec{5, 9, -7, 11}},
		{1, 0, api.Vec{5, 7, 9, 11}}, {1, 1, api.Vec{9, 7, -5, 11}}, {1, 2, api.Vec{-5, 7, -9, 11}}, {1, 3, api.Vec{-9, 7, 5, 11}},
		{2, 0, api.Vec{5, 7, 9, 11}}, {2, 1, api.Vec{-7, 5, 9, 11}}, {2, 2, api.Vec{-5, -7, 9, 11}}, {2, 3, api.Vec{7, -5, 9, 11}},
	} {
		m, e := Turn(x.axis, x.quarters)
		if e != api.OK {
			t.Fatal(x, e)
		}
		checkApply(t, m, api.Vec{5, 7, 9, 11}, x.want, api.OK)
		for _, more := range []int{4, -4, 400, -400, math.MinInt} {
			if again, e := Turn(x.axis, x.quarters+more); again != m || e != api.OK {
				t.Error(x, more, again, e)
			}
		}
	}
	if m, e := Turn(0, 1); m != (api.Matrix{{one, 0, 0, 0}, {0, 0, -one, 0}, {0, one, 0, 0}, {0, 0, 0, one}}) || e != api.OK {
		t.Error(m, e)
	}
	if m, e := Turn(2, 1); m != (api.Matrix{{0, -one, 0, 0}, {one, 0, 0, 0}, {0, 0, one, 0}, {0, 0, 0, one}}) || e != api.OK {
		t.Error(m, e)
	}
}

// P3.2: how many quarters there are modulo 4, down to the ends of what may be asked; axes that there are not.
func TestTurnEdges(t *testing.T) {
	for axis := range 3 {
		for _, x := range [][2]int{{-1, 3}, {-2, 2}, {-3, 1}, {-5, 3}, {4, 0}, {7, 3}, {math.MaxInt, 3}, {math.MaxInt - 1, 2}, {math.MinInt, 0}, {math.MinInt + 1, 1}} {
			want, _ := Turn(axis, x[1])
			if m, e := Turn(axis, x[0]); m != want || e != api.OK {
				t.Error(axis, x, m, e)
			}
		}
	}
	for _, axis := range []int{-1, 3, 4, -3, math.MaxInt, math.MinInt} {
		for _, quarters := range []int{0, 1, -1} {
			if m, e := Turn(axis, quarters); m != noMatrix || e != api.ErrArg {
				t.Error(axis, quarters, m, e)
			}
		}
	}
}

// P3.2: rows and columns are exchanged, of any numbers.
func TestAcross(t *testing.T) {
	m := api.Matrix{{1, 2, 3, 4}, {5, 6, 7, 8}, {9, 10, 11, 12}, {top, bottom, 15, 16}}
	if across := Across(m); across != (api.Matrix{{1, 5, 9, top}, {2, 6, 10, bottom}, {3, 7, 11, 15}, {4, 8, 12, 16}}) {
		t.Error(across)
	}
	if Across(Across(m)) != m {
		t.Error(Across(Across(m)))
	}
}

// P3.3: who changes what was answered changes no other answer, and nothing that was handed in.
func TestNewMemory(t *testing.T) {
	for name, answer := range map[string]func() api.Matrix{
		"Identity": Identity,
		"Move":     func() api.Matrix { return Move(1, 2, 3) },
		"Scale":    func() api.Matrix { return Scale(1, 2, 3) },
		"Turn":     func() api.Matrix { m, _ := Turn(1, 1); return m },
		"Across":   func() api.Matrix { return Across(Move(1, 2, 3)) },
		"Mul":      func() api.Matrix { m, _ := Mul(Move(1, 2, 3), Identity()); return m },
	} {
		first := answer()
		kept := first
		for at := range 16 {
			first[at/4][at%4] = -77
		}
		if again := answer(); again != kept {
			t.Error(name, again, kept)
		}
	}
	m, v := Move(1, 2, 3), api.Vec{4, 5, 6, one}
	keptM, keptV := m, v
	Mul(m, m)
	Apply(m, v)
	Across(m)
	Check(m, one)
	if m != keptM || v != keptV {
		t.Error(m, v)
	}
}

// P3.4: the identity changes nothing.
func TestIdentity(t *testing.T) {
	r := rand.New(rand.NewSource(4))
	for range 2000 {
		m, v := matrix(r, 62), vec(r, 62)
		checkMul(t, m, Identity(), m, api.OK)
		checkMul(t, Identity(), m, m, api.OK)
		checkApply(t, Identity(), v, v, api.OK)
	}
	for _, n := range []int64{most, -most} {
		checkMul(t, filled(n), Identity(), filled(n), api.OK)
		checkMul(t, Identity(), filled(n), filled(n), api.OK)
	}
}

// P3.4: four quarters are none, and turns about one axis come to their sum, though that goes round.
func TestTurnsAdd(t *testing.T) {
	quarters := []int{-9, -4, -3, -2, -1, 0, 1, 2, 3, 4, 5, 8, 1000001, math.MaxInt, math.MinInt}
	for axis := range 3 {
		if m, e := Turn(axis, 4); m != Identity() || e != api.OK {
			t.Error(axis, m, e)
		}
		for _, n := range quarters {
			for _, k := range quarters {
				first, _ := Turn(axis, n)
				second, _ := Turn(axis, k)
				want, _ := Turn(axis, n+k)
				checkMul(t, first, second, want, api.OK)
			}
		}
	}
}

// P3.4: across of a product is the product of both across, the other way about; with its error, too.
func TestAcrossOfProduct(t *testing.T) {
	r := rand.New(rand.NewSource(5))
	for range 5000 {
		a, b := matrix(r, 40), matrix(r, 40)
		product, e := Mul(a, b)
		checkMul(t, Across(b), Across(a), Across(product), e)
	}
	checkMul(t, Across(filled(most)), Across(filled(one)), noMatrix, api.ErrMatrix)
}

// P3.4: how far a vertex may be in clip space: numbers of products within MaxBoth and MaxCoord.
func TestBelowFar(t *testing.T) {
	for _, m := range []int64{api.MaxBoth, -api.MaxBoth} {
		for _, v := range []int64{api.MaxCoord, -api.MaxCoord} {
			applied, e := Apply(filled(m), api.Vec{v, v, v, v})
			if e != api.OK || max(applied[0], -applied[0]) >= api.Far || applied[0] != m/one*v*4 {
				t.Error(m, v, applied, e)
			}
		}
	}
	r := rand.New(rand.NewSource(6))
	for range 5000 {
		applied, e := Apply(matrix(r, 26), vec(r, 30))
		for _, n := range applied {
			if e != api.OK || n <= -api.Far || n >= api.Far {
				t.Fatal(applied, e)
			}
		}
	}
}
