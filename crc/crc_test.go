package crc

import (
	"bytes"
	"hash/crc32"
	"math"
	"math/rand"
	"slices"
	"testing"

	"mullion/api"
)

// round is after how many bytes' steps any number is itself again.
const round = 1<<32 - 1

func seeded() *rand.Rand {
	return rand.New(rand.NewSource(4))
}

// filled is n bytes, any.
func filled(r *rand.Rand, n int) []byte {
	b := make([]byte, n)
	r.Read(b)
	return b
}

// step is one, word by word as the chapter tells it.
func step(n uint32) uint32 {
	odd := n%2 == 1
	n /= 2
	if odd {
		n ^= 0xEDB88320
	}
	return n
}

func steps(n uint32, count int) uint32 {
	for range count {
		n = step(n)
	}
	return n
}

// more is what P4.1 says of More, step by step.
func more(sum uint32, b []byte) uint32 {
	n := sum ^ 0xFFFFFFFF
	for _, c := range b {
		n = steps(n^uint32(c), 8)
	}
	return n ^ 0xFFFFFFFF
}

// numbers are of 32 bits: each bit alone, all but one, and some, always the same ones.
func numbers() []uint32 {
	l := []uint32{0, math.MaxUint32, polynomial, 0xCBF43926}
	for bit := range 32 {
		l = append(l, 1<<bit, ^uint32(1<<bit))
	}
	r := seeded()
	for range 40 {
		l = append(l, r.Uint32())
	}
	return l
}

// P4.1: sums that are known.
func TestSum(t *testing.T) {
	for _, x := range []struct {
		s   string
		sum uint32
	}{
		{"", 0}, {"a", 0xE8B7BE43}, {"abc", 0x352441C2}, {"123456789", 0xCBF43926},
		{"\x00", 0xD202EF8D}, {"\xff", 0xFF000000}, {"\x00\x00\x00\x00", 0x2144DF1C}, {"\xff\xff\xff\xff", 0xFFFFFFFF},
		{"The quick brown fox jumps over the lazy dog", 0x414FA339},
	} {
		if n := Sum([]byte(x.s)); n != x.sum {
			t.Errorf("Sum(%q): %08X, not %08X", x.s, n, x.sum)
		}
	}
	if n := Sum(nil); n != 0 {
		t.Errorf("Sum(nil): %08X", n)
	}
}

// P4.1: each byte alone, and bytes of all lengths.
func TestSumAgainstSteps(t *testing.T) {
	for c := range 256 {
		b := []byte{byte(c)}
		if n := Sum(b); n != more(0, b) {
			t.Errorf("Sum(%v): %08X", b, n)
		}
	}
	r := seeded()
	for length := range 300 {
		b := filled(r, length)
		if n, want := Sum(b), crc32.ChecksumIEEE(b); n != want || n != more(0, b) {
			t.Fatalf("Sum(%v): %08X, not %08X", b, n, want)
		}
	}
	if b := filled(r, 1<<20); Sum(b) != crc32.ChecksumIEEE(b) {
		t.Errorf("%08X", Sum(b))
	}
}

// P4.1: any number may stand in the place of the first one.
func TestMore(t *testing.T) {
	r := seeded()
	for _, sum := range numbers() {
		for _, b := range [][]byte{nil, {}} {
			if n := More(sum, b); n != sum {
				t.Errorf("More(%08X, nothing): %08X", sum, n)
			}
		}
		for length := range 40 {
			b := filled(r, length)
			if n, want := More(sum, b), more(sum, b); n != want || n != crc32.Update(sum, crc32.IEEETable, b) {
				t.Fatalf("More(%08X, %v): %08X, not %08X", sum, b, n, want)
			}
		}
	}
}

// P4.2: of n below 0 there is nothing, whatever the sums are.
func TestBothBelow(t *testing.T) {
	for _, n := range []int{-1, -2, -8, -round, math.MinInt32, math.MinInt + 1, math.MinInt} {
		for _, sum := range numbers() {
			if both := Both(sum, ^sum, n); both != 0 {
				t.Errorf("Both(%08X, %08X, %d): %08X", sum, ^sum, n, both)
			}
		}
	}
}

// P4.2: step by step.
func TestBothAgainstSteps(t *testing.T) {
	for _, x := range []struct {
		first, second uint32
		n             int
		both          uint32
	}{
		{5, 6, 0, 3}, {0, 0, 0, 0}, {0, 7, 9, 7}, {0x80000000, 0, 4, polynomial}, {1, 0, 1, 0x77073096}, {0x100, 0, 1, 1}, {0x12345600, 0xFF, 1, 0x1234A9},
		{Sum([]byte("12345")), Sum([]byte("6789")), 4, 0xCBF43926},
	} {
		if both := Both(x.first, x.second, x.n); both != x.both {
			t.Errorf("Both(%08X, %08X, %d): %08X, not %08X", x.first, x.second, x.n, both, x.both)
		}
	}
	r := seeded()
	for _, first := range numbers() {
		over := first
		for n := range 130 {
			second := r.Uint32()
			if both := Both(first, second, n); both != over^second {
				t.Fatalf("Both(%08X, %08X, %d): %08X, not %08X", first, second, n, both, over^second)
			}
			over = steps(over, 8)
		}
	}
	for _, n := range []int{1000, 4095, 4096, 4097, 65535, 65536, 1<<17 + 1} {
		first := r.Uint32()
		if both := Both(first, 9, n); both != steps(first, 8*n)^9 {
			t.Errorf("Both(%08X, 9, %d): %08X", first, n, both)
		}
	}
}

// P4.2: as many steps as no one can go, and 8 times n is no int any more.
func TestBothFar(t *testing.T) {
	greatest := math.MaxInt / round * round
	for _, first := range numbers() {
		for _, n := range []int{round, 2 * round, 3 * round, round << 20, round << 29, round << 30, greatest} {
			for _, less := range []int{0, 1, 2, 77} {
				if both := Both(first, 3, n+less); both != steps(first, 8*less)^3 {
					t.Fatalf("Both(%08X, 3, %d): %08X", first, n+less, both)
				}
				// The steps that a round lacks bring it home.
				if both := Both(Both(first, 0, n-less), 0, less); both != first {
					t.Fatalf("%08X, %d and %d: %08X", first, n-less, less, both)
				}
			}
		}
		half := Both(first, 0, math.MaxInt/2)
		if both := Both(first, 0, math.MaxInt); both != Both(half, 0, math.MaxInt/2+1) {
			t.Fatalf("Both(%08X, 0, MaxInt): %08X", first, both)
		}
	}
}

// P4.3: bytes with their sum behind, the lowest byte first.
func TestSeal(t *testing.T) {
	for _, x := range []struct{ b, sealed []byte }{
		{nil, []byte{0, 0, 0, 0}}, {[]byte{}, []byte{0, 0, 0, 0}},
		{[]byte("a"), []byte{0x61, 0x43, 0xBE, 0xB7, 0xE8}},
		{[]byte("abc"), []byte{'a', 'b', 'c', 0xC2, 0x41, 0x24, 0x35}},
		{[]byte("123456789"), []byte("123456789\x26\x39\xF4\xCB")},
		{[]byte{0, 0, 0, 0}, []byte{0, 0, 0, 0, 0x1C, 0xDF, 0x44, 0x21}},
	} {
		if s := Seal(x.b); !bytes.Equal(s, x.sealed) {
			t.Errorf("Seal(%v): % X", x.b, s)
		}
		if b, e := Open(x.sealed); !bytes.Equal(b, x.b) || e != api.OK {
			t.Errorf("Open(% X): %v, %v", x.sealed, b, e)
		}
	}
	r := seeded()
	for length := range 300 {
		b := filled(r, length)
		s := Seal(b)
		n := crc32.ChecksumIEEE(b)
		if want := append(slices.Clone(b), byte(n), byte(n>>8), byte(n>>16), byte(n>>24)); !bytes.Equal(s, want) {
			t.Fatalf("Seal(%v): % X", b, s)
		}
		if o, e := Open(s); !bytes.Equal(o, b) || e != api.OK {
			t.Fatalf("Open(% X): %v, %v", s, o, e)
		}
	}
}

func refused(t *testing.T, b []byte) {
	t.Helper()
	if o, e := Open(b); o != nil || e != api.ErrSum {
		t.Errorf("Open(% X): %v, %v", b, o, e)
	}
}

// P4.3: what is not sealed: too short, and with another sum.
func TestOpenRefuses(t *testing.T) {
	for _, b := range [][]byte{
		nil, {}, {0}, {0, 0}, {0, 0, 0}, {255, 255, 255}, {1, 2, 3},
		{0, 0, 0, 1}, {1, 0, 0, 0}, {255, 255, 255, 255},
		{0x61, 0x43, 0xBE, 0xB7, 0xE9}, {0x60, 0x43, 0xBE, 0xB7, 0xE8}, {0x61, 0xE8, 0xB7, 0xBE, 0x43}, {0x43, 0xBE, 0xB7, 0xE8, 0x61},
		{0, 0, 0, 0, 0}, {0, 0, 0, 0, 0, 0, 0, 0},
		make([]byte, 100), []byte("123456789"),
	} {
		refused(t, b)
	}
	for length := range 20 {
		b := filled(seeded(), length)
		s := Seal(b)
		refused(t, s[:len(s)-1])
		refused(t, s[:len(s)-4])
		refused(t, append(slices.Clone(s), 0))
		refused(t, append([]byte{0}, s...))
		for at := range s {
			for to := range 256 {
				spoilt := slices.Clone(s)
				spoilt[at] = byte(to)
				if byte(to) != s[at] {
					refused(t, spoilt)
				}
			}
		}
	}
}

// P4.4: what is handed in is only read, room behind it too.
func TestOnlyRead(t *testing.T) {
	room := Seal([]byte("123456789"))
	room = append(room, 1, 2, 3, 4, 5, 6, 7, 8)
	was := slices.Clone(room)
	for end := range room {
		Sum(room[:end])
		More(77, room[:end])
		Seal(room[:end])
		Open(room[:end])
		if !bytes.Equal(room, was) {
			t.Fatalf("%d: % X, not % X", end, room, was)
		}
	}
}

// P4.4: what is answered is new memory, room behind it too.
func TestNewMemory(t *testing.T) {
	spoil := func(b []byte) {
		b = b[:cap(b)]
		for at := range b {
			b[at] ^= 0xFF
		}
	}
	for length := range 20 {
		b := filled(seeded(), length)
		was := slices.Clone(b)
		s := Seal(b)
		sealed := slices.Clone(s)
		spoil(Seal(b))
		o, e := Open(s)
		spoil(o)
		if o, e := Open(s); !bytes.Equal(o, was) || e != api.OK {
			t.Errorf("%d: %v, %v", length, o, e)
		}
		if !bytes.Equal(b, was) || !bytes.Equal(s, sealed) || e != api.OK {
			t.Errorf("%d: %v, %v, %v", length, b, s, e)
		}
	}
}

// P4.5: of bytes with others behind, cut anywhere.
func TestOneBehindTheOther(t *testing.T) {
	r := seeded()
	for _, length := range []int{0, 1, 2, 9, 63, 64, 65, 200} {
		b := filled(r, length)
		whole := Sum(b)
		for cut := range length + 1 {
			first, second := b[:cut], b[cut:]
			if n := More(Sum(first), second); n != whole {
				t.Fatalf("More: %d of %d: %08X, not %08X", cut, length, n, whole)
			}
			if n := Both(Sum(first), Sum(second), len(second)); n != whole {
				t.Fatalf("Both: %d of %d: %08X, not %08X", cut, length, n, whole)
			}
		}
	}
	b := filled(r, 100000)
	for _, cut := range []int{1, 3, 1000, 34464, 99999} {
		if n := Both(Sum(b[:cut]), Sum(b[cut:]), len(b)-cut); n != Sum(b) {
			t.Errorf("%d: %08X, not %08X", cut, n, Sum(b))
		}
	}
}

// P4.5: three behind one another, put together either way about.
func TestThree(t *testing.T) {
	r := seeded()
	for range 200 {
		a, b, c := filled(r, r.Intn(50)), filled(r, r.Intn(50)), filled(r, r.Intn(50))
		left := Both(Both(Sum(a), Sum(b), len(b)), Sum(c), len(c))
		right := Both(Sum(a), Both(Sum(b), Sum(c), len(c)), len(b)+len(c))
		if want := Sum(slices.Concat(a, b, c)); left != want || right != want {
			t.Fatalf("%v, %v, %v: %08X, %08X; not %08X", a, b, c, left, right, want)
		}
	}
}

// turned is b, with the bits of a pattern turned, from a bit on; false, if they do not all belong to b.
func turned(b []byte, from int, pattern uint32) ([]byte, bool) {
	b = slices.Clone(b)
	for bit := range 32 {
		if pattern>>bit&1 == 0 {
			continue
		}
		at := from + bit
		if at >= 8*len(b) {
			return nil, false
		}
		b[at/8] ^= 1 << (at % 8)
	}
	return b, true
}

// patterns are bits that are turned within 32, the first one always: all of up to ten bits, all of two, all of them, and some.
func patterns() []uint32 {
	var l []uint32
	for n := uint32(1); n < 1<<10; n += 2 {
		l = append(l, n)
	}
	for bit := 1; bit < 32; bit++ {
		l = append(l, 1|1<<bit, 1<<bit-1, ^uint32(1<<bit))
	}
	r := seeded()
	for range 2000 {
		l = append(l, r.Uint32()|1)
	}
	return append(l, math.MaxUint32, polynomial|1, 0xDB710641)
}

// P4.5: bits turned within 32 that follow one another are told, by the sum, and of sealed bytes, wherever they stand.
func TestTurnedBits(t *testing.T) {
	for _, length := range []int{0, 1, 2, 4, 5, 11} {
		b := filled(seeded(), length)
		s := Seal(b)
		for from := range 8 * len(s) {
			for _, pattern := range patterns() {
				if other, ok := turned(b, from, pattern); ok && Sum(other) == Sum(b) {
					t.Fatalf("%d bytes, bits %08X from %d: %08X", length, pattern, from, Sum(b))
				}
				if spoilt, ok := turned(s, from, pattern); ok {
					if o, e := Open(spoilt); o != nil || e != api.ErrSum {
						t.Fatalf("%d bytes, bits %08X from %d: %v, %v", length, pattern, from, o, e)
					}
				}
			}
		}
	}
}

// Digits go up to the highest one that is set, and no further than they are wanted.
func TestDigits(t *testing.T) {
	for _, x := range []uint64{0, 1, 2, 5, 1 << 31, math.MaxUint32, 1 << 62, 1 << 63, math.MaxUint64} {
		back, next := uint64(0), 0
		for bit, set := range digits(x) {
			if bit != next {
				t.Fatalf("%x: %d, not %d", x, bit, next)
			}
			if set {
				back |= 1 << bit
			}
			next++
		}
		if back != x || next > 0 && x>>(next-1) != 1 {
			t.Errorf("%x: %x, up to %d", x, back, next)
		}
	}
	for bit := range digits(math.MaxUint64) {
		if bit == 3 {
			break
		}
		if bit > 3 {
			t.Fatal(bit)
		}
	}
}
