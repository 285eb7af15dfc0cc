package pack

import (
	"bytes"
	"encoding/binary"
	"math"
	"math/big"
	"math/rand"
	"slices"
	"testing"

	"mullion/api"
)

func seeded() *rand.Rand {
	return rand.New(rand.NewSource(5))
}

// filled is n bytes, any.
func filled(r *rand.Rand, n int) []byte {
	b := make([]byte, n)
	r.Read(b)
	return b
}

// written is what some calls write.
func written(t *testing.T, calls func(w *Writer)) []byte {
	t.Helper()
	w := NewWriter()
	calls(w)
	b, e := w.Bytes()
	if e != api.OK {
		t.Fatalf("Bytes: %v", e)
	}
	return b
}

func spoils(t *testing.T, what string, calls func(w *Writer)) {
	t.Helper()
	w := NewWriter()
	calls(w)
	if b, e := w.Bytes(); b != nil || e != api.ErrPack {
		t.Errorf("%s: % X, %v", what, b, e)
	}
}

// numbers are of 64 bits: those about each length of a form, about each bit, and some, always the same ones.
func numbers() []uint64 {
	l := []uint64{0, math.MaxUint64, 300, math.MaxInt64, 1 << 63, 1<<63 + 1}
	for bit := range 64 {
		l = append(l, 1<<bit-1, 1<<bit, 1<<bit+1, ^uint64(1<<bit))
	}
	r := seeded()
	for range 400 {
		l = append(l, r.Uint64()>>r.Intn(64))
	}
	return l
}

// formOf is what the chapter says of a form, by numbers without bounds.
func formOf(n uint64) []byte {
	left, base := new(big.Int).SetUint64(n), big.NewInt(128)
	var b []byte
	for {
		rest := new(big.Int)
		left.DivMod(left, base, rest)
		if left.Sign() == 0 {
			return append(b, byte(rest.Int64()))
		}
		b = append(b, byte(rest.Int64())+128)
	}
}

// numberOf is the number whose form stands at the begin of b, and how long it is; 0 and 0, if there is none.
func numberOf(b []byte) (uint64, int) {
	n, at := new(big.Int), uint(0)
	for i, c := range b {
		n.Or(n, new(big.Int).Lsh(big.NewInt(int64(c%128)), at))
		at += 7
		if c < 128 {
			if c == 0 && i > 0 || n.BitLen() > 64 {
				return 0, 0
			}
			return n.Uint64(), i + 1
		}
	}
	return 0, 0
}

// signedOf is what the chapter says of a signed number's form, by numbers without bounds.
func signedOf(n int64) []byte {
	twice := new(big.Int).Mul(big.NewInt(n), big.NewInt(2))
	if n < 0 {
		twice.Neg(twice).Sub(twice, big.NewInt(1))
	}
	return formOf(twice.Uint64())
}

// P5.1: forms that are known.
func TestWriteUint(t *testing.T) {
	for _, x := range []struct {
		n uint64
		b string
	}{
		{0, "\x00"}, {1, "\x01"}, {127, "\x7F"}, {128, "\x80\x01"}, {255, "\xFF\x01"}, {300, "\xAC\x02"},
		{16383, "\xFF\x7F"}, {16384, "\x80\x80\x01"}, {1 << 24, "\x80\x80\x80\x08"},
		{1<<63 - 1, "\xFF\xFF\xFF\xFF\xFF\xFF\xFF\xFF\x7F"}, {1 << 63, "\x80\x80\x80\x80\x80\x80\x80\x80\x80\x01"},
		{math.MaxUint64, "\xFF\xFF\xFF\xFF\xFF\xFF\xFF\xFF\xFF\x01"},
	} {
		if b := written(t, func(w *Writer) { w.Uint(x.n) }); string(b) != x.b {
			t.Errorf("Uint(%d): % X, not % X", x.n, b, x.b)
		}
	}
	for _, n := range numbers() {
		b := written(t, func(w *Writer) { w.Uint(n) })
		if !bytes.Equal(b, formOf(n)) || !bytes.Equal(b, binary.AppendUvarint(nil, n)) || len(b) > 10 {
			t.Errorf("Uint(%d): % X, not % X", n, b, formOf(n))
		}
	}
}

// P5.1: forms of signed numbers, the least and the greatest one too.
func TestWriteInt(t *testing.T) {
	for _, x := range []struct {
		n int64
		b string
	}{
		{0, "\x00"}, {-1, "\x01"}, {1, "\x02"}, {-2, "\x03"}, {2, "\x04"}, {63, "\x7E"}, {-64, "\x7F"}, {64, "\x80\x01"}, {-65, "\x81\x01"},
		{math.MaxInt64, "\xFE\xFF\xFF\xFF\xFF\xFF\xFF\xFF\xFF\x01"}, {math.MinInt64, "\xFF\xFF\xFF\xFF\xFF\xFF\xFF\xFF\xFF\x01"},
	} {
		if b := written(t, func(w *Writer) { w.Int(x.n) }); string(b) != x.b {
			t.Errorf("Int(%d): % X, not % X", x.n, b, x.b)
		}
	}
	for _, n := range numbers() {
		if b := written(t, func(w *Writer) { w.Int(int64(n)) }); !bytes.Equal(b, signedOf(int64(n))) || !bytes.Equal(b, binary.AppendVarint(nil, int64(n))) {
			t.Errorf("Int(%d): % X, not % X", int64(n), b, signedOf(int64(n)))
		}
	}
}

// P5.1: from 0 to the limit, and nothing else.
func TestWriteSmall(t *testing.T) {
	edges := []int{math.MinInt, -1 << 32, -129, -2, -1, 0, 1, 2, 127, 128, 129, 300, 65535, 1 << 32, math.MaxInt - 1, math.MaxInt}
	for _, n := range edges {
		for _, most := range edges {
			if n < 0 || n > most {
				spoils(t, "Small", func(w *Writer) { w.Small(n, most) })
			} else if b := written(t, func(w *Writer) { w.Small(n, most) }); !bytes.Equal(b, formOf(uint64(n))) {
				t.Errorf("Small(%d, %d): % X", n, most, b)
			}
		}
	}
}

// P5.1: a byte, 1 or 0; all calls, one behind the other.
func TestWriteInOrder(t *testing.T) {
	if b := written(t, func(*Writer) {}); len(b) != 0 {
		t.Errorf("% X", b)
	}
	b := written(t, func(w *Writer) {
		w.Bit(true)
		w.Bit(false)
		w.Bit(true)
		w.Uint(300)
		w.Int(-1)
		w.Small(5, 5)
		w.Text([]byte("ab"), 2)
		w.Text(nil, 0)
		w.Bit(false)
	})
	if want := "\x01\x00\x01\xAC\x02\x01\x05\x02ab\x00\x00"; string(b) != want {
		t.Errorf("% X, not % X", b, want)
	}
}

// P5.1: how many bytes, and they; no more than the limit.
func TestWriteText(t *testing.T) {
	for _, x := range []struct {
		text string
		most int
		b    string
	}{
		{"", 0, "\x00"}, {"", 1, "\x00"}, {"", math.MaxInt, "\x00"}, {"ab", 5, "\x02ab"}, {"ab", 2, "\x02ab"}, {"\x00\xFF\x80", 3, "\x03\x00\xFF\x80"},
	} {
		if b := written(t, func(w *Writer) { w.Text([]byte(x.text), x.most) }); string(b) != x.b {
			t.Errorf("Text(%q, %d): % X", x.text, x.most, b)
		}
	}
	for _, length := range []int{0, 1, 127, 128, 880, 1 << 17} {
		text := filled(seeded(), length)
		want := append(formOf(uint64(length)), text...)
		if b := written(t, func(w *Writer) { w.Text(text, length) }); !bytes.Equal(b, want) {
			t.Errorf("Text of %d bytes: %d", length, len(b))
		}
		for _, most := range []int{length - 1, -1, math.MinInt} {
			spoils(t, "Text", func(w *Writer) { w.Text(text, most) })
		}
	}
}

// P5.1: a writer that is spoilt stays so, whatever stands in it, and comes behind.
func TestWriterStaysSpoilt(t *testing.T) {
	for at, spoil := range []func(w *Writer){
		func(w *Writer) { w.Small(2, 1) },
		func(w *Writer) { w.Small(-1, 1) },
		func(w *Writer) { w.Small(0, -1) },
		func(w *Writer) { w.Text([]byte("ab"), 1) },
		func(w *Writer) { w.Text(nil, -1) },
	} {
		w := NewWriter()
		w.Uint(5)
		spoil(w)
		for range 2 {
			if b, e := w.Bytes(); b != nil || e != api.ErrPack {
				t.Errorf("%d: % X, %v", at, b, e)
			}
			w.Uint(1)
			w.Int(1)
			w.Small(1, 1)
			w.Bit(true)
			w.Text([]byte("a"), 1)
		}
	}
}

// bounds are limits of numbers and texts.
func bounds() []int {
	return []int{math.MinInt, -1, 0, 1, 2, 3, 127, 128, 300, 16383, 1 << 32, math.MaxInt - 1, math.MaxInt}
}

// isSpoilt holds what all calls answer against what is read of a spoilt reader; and its place against where it has to stay.
func isSpoilt(t *testing.T, r *Reader, place int, what string, b []byte) {
	t.Helper()
	for range 2 {
		if r.at != place || r.Left() != 0 || r.End() != api.ErrPack {
			t.Errorf("%s, % X: at %d, not %d; %d left, %v", what, b, r.at, place, r.Left(), r.End())
		}
		if n, i, s, is, text := r.Uint(), r.Int(), r.Small(math.MaxInt), r.Bit(), r.Text(math.MaxInt); n != 0 || i != 0 || s != 0 || is || text != nil {
			t.Errorf("%s, % X: spoilt, and %d, %d, %d, %v, % X", what, b, n, i, s, is, text)
		}
		if l := Many(r, math.MaxInt, func(*Reader) int { panic("nothing is left") }); l != nil {
			t.Errorf("%s, % X: spoilt, and %v", what, b, l)
		}
	}
}

// stands holds a reader's place against another one.
func stands(t *testing.T, r *Reader, place, length int, what string, b []byte) {
	t.Helper()
	if r.at != place || r.Left() != length-place || (r.End() == api.OK) != (place == length) {
		t.Errorf("%s, % X: at %d of %d, not %d; %d left, %v", what, b, r.at, length, place, r.Left(), r.End())
	}
}

// readNumbers holds Uint, Int, Small and Bit against what stands at the begin of b.
func readNumbers(t *testing.T, b []byte) {
	t.Helper()
	n, length := numberOf(b)
	r := NewReader(b)
	if m := r.Uint(); m != n {
		t.Errorf("Uint of % X: %d, not %d", b, m, n)
	}
	i := NewReader(b)
	m := i.Int()
	if length == 0 {
		isSpoilt(t, r, 0, "Uint", b)
		isSpoilt(t, i, 0, "Int", b)
		if m != 0 {
			t.Errorf("Int of % X: %d", b, m)
		}
	} else {
		stands(t, r, length, len(b), "Uint", b)
		stands(t, i, length, len(b), "Int", b)
		if !bytes.Equal(signedOf(m), b[:length]) {
			t.Errorf("Int of % X: %d", b, m)
		}
	}
	for _, most := range bounds() {
		r := NewReader(b)
		m := r.Small(most)
		if length == 0 || most < 0 || n > uint64(most) {
			isSpoilt(t, r, 0, "Small", b)
			if m != 0 {
				t.Errorf("Small(%d) of % X: %d", most, b, m)
			}
			continue
		}
		stands(t, r, length, len(b), "Small", b)
		if uint64(m) != n {
			t.Errorf("Small(%d) of % X: %d, not %d", most, b, m, n)
		}
	}
	readBit(t, b)
}

func readBit(t *testing.T, b []byte) {
	t.Helper()
	r := NewReader(b)
	is := r.Bit()
	if len(b) == 0 || b[0] > 1 {
		isSpoilt(t, r, 0, "Bit", b)
		if is {
			t.Errorf("Bit of % X: %v", b, is)
		}
		return
	}
	stands(t, r, 1, len(b), "Bit", b)
	if is != (b[0] == 1) {
		t.Errorf("Bit of % X: %v", b, is)
	}
}

// P5.2: numbers, with anything behind them.
func TestReadNumbers(t *testing.T) {
	for _, n := range numbers() {
		f := formOf(n)
		for _, behind := range []string{"", "\x00", "\x01", "\x7F", "\x80", "\xFF\xFF"} {
			b := append(slices.Clone(f), behind...)
			readNumbers(t, b)
			if m := NewReader(b).Uint(); m != n {
				t.Errorf("Uint of % X: %d, not %d", b, m, n)
			}
		}
		for end := range f {
			readNumbers(t, f[:end])
		}
	}
	for _, x := range []struct {
		b string
		n int64
	}{{"\x00", 0}, {"\x01", -1}, {"\x02", 1}, {"\x7E", 63}, {"\x7F", -64}, {"\x80\x01", 64},
		{"\xFE\xFF\xFF\xFF\xFF\xFF\xFF\xFF\xFF\x01", math.MaxInt64}, {"\xFF\xFF\xFF\xFF\xFF\xFF\xFF\xFF\xFF\x01", math.MinInt64}} {
		if n := NewReader([]byte(x.b)).Int(); n != x.n {
			t.Errorf("Int of % X: %d, not %d", x.b, n, x.n)
		}
	}
}

// P5.2: all bytes up to two, those at the edges up to five, and about the longest form.
func TestReadAnyBytes(t *testing.T) {
	readNumbers(t, nil)
	for first := range 256 {
		readNumbers(t, []byte{byte(first)})
		for second := range 256 {
			readNumbers(t, []byte{byte(first), byte(second)})
		}
	}
	var longer func(b []byte)
	longer = func(b []byte) {
		readNumbers(t, b)
		if len(b) == 5 {
			return
		}
		for _, c := range []byte{0, 1, 2, 127, 128, 129, 255} {
			longer(append(slices.Clone(b), c))
		}
	}
	longer(nil)
	for _, c := range []byte{128, 129, 254, 255} {
		for length := 7; length < 13; length++ {
			b := bytes.Repeat([]byte{c}, length)
			readNumbers(t, b)
			for last := range 256 {
				readNumbers(t, append(slices.Clone(b), byte(last)))
				readNumbers(t, append(slices.Clone(b), byte(last), 0))
				readNumbers(t, append(slices.Clone(b), byte(last), 1))
			}
		}
		readNumbers(t, bytes.Repeat([]byte{c}, 1000))
	}
}

// P5.2: numbers that are none.
func TestReadNone(t *testing.T) {
	for _, b := range []string{
		"", "\x80", "\xFF", "\xFF\xFF", "\x80\x80\x80\x80\x80\x80\x80\x80\x80\x80\x80", // that end
		"\x80\x00", "\x81\x00", "\xFF\x80\x00", "\x80\x80\x80\x80\x80\x80\x80\x80\x80\x00", // that might be shorter
		"\x80\x80\x80\x80\x80\x80\x80\x80\x80\x02", "\xFF\xFF\xFF\xFF\xFF\xFF\xFF\xFF\xFF\x03", "\xFF\xFF\xFF\xFF\xFF\xFF\xFF\xFF\xFF\x7F", // of more than 64 bits
		"\x80\x80\x80\x80\x80\x80\x80\x80\x80\x81\x00", "\x80\x80\x80\x80\x80\x80\x80\x80\x80\x80\x01",
	} {
		r := NewReader([]byte(b))
		if n := r.Uint(); n != 0 {
			t.Errorf("% X: %d", b, n)
		}
		isSpoilt(t, r, 0, "Uint", []byte(b))
	}
}

// readText holds Text against what stands at the begin of b.
func readText(t *testing.T, b []byte, most int) {
	t.Helper()
	n, length := numberOf(b)
	r := NewReader(b)
	text := r.Text(most)
	if length == 0 || most < 0 || n > uint64(most) || n > uint64(len(b)-length) {
		isSpoilt(t, r, 0, "Text", b)
		if text != nil {
			t.Errorf("Text(%d) of % X: % X", most, b, text)
		}
		return
	}
	end := length + int(n)
	stands(t, r, end, len(b), "Text", b)
	if !bytes.Equal(text, b[length:end]) {
		t.Errorf("Text(%d) of % X: % X", most, b, text)
	}
}

// P5.2: texts, cut, with bytes behind, and above their limit.
func TestReadText(t *testing.T) {
	for _, length := range []int{0, 1, 2, 5, 126, 127, 128, 129, 300} {
		whole := append(formOf(uint64(length)), filled(seeded(), length+2)...)
		for end := range len(whole) + 1 {
			for _, most := range append(bounds(), length-1, length, length+1) {
				readText(t, whole[:end], most)
			}
		}
	}
	for _, n := range numbers() {
		for _, most := range bounds() {
			readText(t, append(formOf(n), "abc"...), most)
		}
	}
	for _, b := range []string{"", "\x80", "\x80\x00", "\x81\x00a", "\x01", "\x02a", "\xFF\xFF\xFF\xFF\xFF\xFF\xFF\xFF\xFF\x01abc", "\xFF\xFF\xFF\xFF\xFF\xFF\xFF\xFF\x7Fabc", "\x80\x80\x80\x80\x80\x80\x80\x80\x80\x01abc"} {
		for _, most := range bounds() {
			readText(t, []byte(b), most)
		}
	}
}

// P5.2: what spoils it behind other calls leaves the place there, and what they answered.
func TestReadInOrder(t *testing.T) {
	b := []byte("\xAC\x02\x01\x05\x01\x00\x02ab\x00\x07")
	whole := func() *Reader {
		r := NewReader(b)
		if n, i, s, yes, no, text, empty := r.Uint(), r.Int(), r.Small(5), r.Bit(), r.Bit(), r.Text(2), r.Text(0); n != 300 || i != -1 || s != 5 || !yes || no || string(text) != "ab" || len(empty) != 0 {
			t.Errorf("%d, %d, %d, %v, %v, % X, % X", n, i, s, yes, no, text, empty)
		}
		stands(t, r, len(b)-1, len(b), "all", b)
		return r
	}
	for at, spoil := range []func(r *Reader){
		func(r *Reader) { r.Small(6) },
		func(r *Reader) { r.Bit() },
		func(r *Reader) { r.Text(100) },
		func(r *Reader) { r.Text(6) },
	} {
		r := whole()
		spoil(r)
		isSpoilt(t, r, len(b)-1, "behind others", b)
		if r.at != len(b)-1 {
			t.Errorf("%d: at %d", at, r.at)
		}
	}
	r := whole()
	if n := r.Small(7); n != 7 || r.End() != api.OK || r.Left() != 0 {
		t.Errorf("%d, %v, %d left", n, r.End(), r.Left())
	}
	// Behind the end there is nothing more.
	if n := r.Uint(); n != 0 {
		t.Errorf("%d", n)
	}
	isSpoilt(t, r, len(b), "behind the end", b)
}

// P5.3: what is left, and the end.
func TestLeft(t *testing.T) {
	for _, b := range [][]byte{nil, {}} {
		if r := NewReader(b); r.Left() != 0 || r.End() != api.OK {
			t.Errorf("nothing: %d left, %v", r.Left(), r.End())
		}
	}
	b := []byte{0x80, 1, 5, 1, 3, 1, 2, 3}
	r := NewReader(b)
	for _, x := range []struct {
		left int
		next func()
	}{
		{8, func() { r.Uint() }}, {6, func() { r.Int() }}, {5, func() { r.Bit() }}, {4, func() { r.Text(3) }},
	} {
		for range 2 {
			if r.Left() != x.left || r.End() != api.ErrPack {
				t.Errorf("%d left, not %d; %v", r.Left(), x.left, r.End())
			}
		}
		x.next()
	}
	for range 2 {
		if r.Left() != 0 || r.End() != api.OK {
			t.Errorf("%d left, %v", r.Left(), r.End())
		}
	}
}

// P5.3: what is spoilt is so, at the begin, within, and at the end.
func TestSpoil(t *testing.T) {
	b := []byte{1, 1, 1}
	for read := range len(b) + 1 {
		r := NewReader(b)
		for range read {
			r.Uint()
		}
		r.Spoil()
		isSpoilt(t, r, read, "Spoil", b)
		r.Spoil()
		isSpoilt(t, r, read, "Spoil, twice", b)
	}
}

// P5.4: lists, with what stands behind them.
func TestMany(t *testing.T) {
	for length := range 20 {
		var want []int64
		for at := range length {
			want = append(want, int64(at*at*at)-50)
		}
		b := written(t, func(w *Writer) {
			w.Small(length, 20)
			for _, n := range want {
				w.Int(n)
			}
			w.Uint(9)
		})
		for most := -1; most < 25; most++ {
			r := NewReader(b)
			l := Many(r, most, (*Reader).Int)
			if most < length {
				if l != nil {
					t.Errorf("%d of at most %d: %v", length, most, l)
				}
				isSpoilt(t, r, 0, "Many", b)
				continue
			}
			if !slices.Equal(l, want) || r.Left() != 1 || r.Uint() != 9 || r.End() != api.OK {
				t.Errorf("%d of at most %d: %v, %v", length, most, l, r.End())
			}
		}
	}
}

// P5.4: of other types, and of lists.
func TestManyKinds(t *testing.T) {
	type pair struct {
		is   bool
		text string
	}
	one := func(r *Reader) pair { return pair{r.Bit(), string(r.Text(3))} }
	several := func(r *Reader) []pair { return Many(r, 2, one) }
	b := []byte("\x03\x02\x01\x01a\x00\x02bc\x00\x01\x00\x03def")
	r := NewReader(b)
	l := Many(r, 3, several)
	if r.End() != api.OK || len(l) != 3 || !slices.Equal(l[0], []pair{{true, "a"}, {false, "bc"}}) || l[1] != nil || !slices.Equal(l[2], []pair{{false, "def"}}) {
		t.Errorf("%v, %v", l, r.End())
	}
	for end := range b {
		r := NewReader(b[:end])
		if l := Many(r, 3, several); l != nil || r.End() != api.ErrPack {
			t.Errorf("% X: %v, %v", b[:end], l, r.End())
		}
	}
	// Parts that are no bytes are as many as are said.
	if l := Many(NewReader([]byte{5}), 5, func(*Reader) int { return 7 }); !slices.Equal(l, []int{7, 7, 7, 7, 7}) {
		t.Errorf("%v", l)
	}
}

// P5.4: nothing more is read, when it is spoilt.
func TestManyEnds(t *testing.T) {
	for _, x := range []struct {
		b     string
		most  int
		calls int
	}{
		{"", 5, 0}, {"\x80", 5, 0}, {"\x80\x00", 5, 0}, {"\x06\x00\x00\x00\x00\x00\x00", 5, 0}, {"\x00", -1, 0},
		{"\x05", 5, 1}, {"\x05\x01\x00", 5, 3}, {"\x02\x01\x02\x01\x01", 5, 2}, {"\x03\x02\x01\x01", 5, 1}, {"\x01\x02", 5, 1},
		// As many as there is no room for.
		{"\xFF\xFF\xFF\xFF\xFF\xFF\xFF\xFF\x7F\x01\x02", math.MaxInt, 2},
		{"\xFF\xFF\xFF\xFF\xFF\xFF\xFF\xFF\xFF\x01\x01\x02", math.MaxInt, 0},
	} {
		calls := 0
		r := NewReader([]byte(x.b))
		l := Many(r, x.most, func(r *Reader) bool {
			calls++
			if calls > 10 {
				panic("no end")
			}
			return r.Bit()
		})
		if l != nil || calls != x.calls || r.End() != api.ErrPack || r.Left() != 0 {
			t.Errorf("% X: %v, %d calls, not %d; %v", x.b, l, calls, x.calls, r.End())
		}
	}
	// Spoilt by who reads, at the last part too.
	for last := range 3 {
		calls := 0
		r := NewReader([]byte{3, 1, 1, 1})
		l := Many(r, 3, func(r *Reader) uint64 {
			n := r.Uint()
			if calls == last {
				r.Spoil()
			}
			calls++
			return n
		})
		if l != nil || calls != last+1 || r.End() != api.ErrPack {
			t.Errorf("%d: %v, %d calls, %v", last, l, calls, r.End())
		}
	}
}

// P5.4: who reads is none, or panics: the call does not, and what is left unread is spoilt.
func TestManyOfNobody(t *testing.T) {
	for at, one := range []func(r *Reader) int{
		nil,
		func(*Reader) int { panic("nobody") },
		func(r *Reader) int { return []int{}[r.Small(5)] },
	} {
		r := NewReader([]byte{2, 1, 1})
		if l := Many(r, 5, one); l != nil || r.End() != api.ErrPack {
			t.Errorf("%d: %v, %v", at, l, r.End())
		}
		r = NewReader([]byte{0})
		if l := Many(r, 5, one); l != nil || r.End() != api.OK {
			t.Errorf("%d, no parts: %v, %v", at, l, r.End())
		}
	}
	// What was read well ahead of that is not told.
	calls := 0
	r := NewReader([]byte{3, 1, 1, 1})
	l := Many(r, 5, func(r *Reader) int {
		calls++
		return 6 / (3 - calls) * r.Small(1)
	})
	if l != nil || calls != 3 || r.End() != api.ErrPack {
		t.Errorf("%v, %d calls, %v", l, calls, r.End())
	}
}

// P5.5: writers that nobody made.
func TestNoWriter(t *testing.T) {
	for at, w := range []*Writer{nil, {}, new(Writer)} {
		for range 2 {
			if b, e := w.Bytes(); b != nil || e != api.ErrNil {
				t.Errorf("%d: % X, %v", at, b, e)
			}
			w.Uint(300)
			w.Int(-1)
			w.Small(1, 2)
			w.Small(2, 1)
			w.Bit(true)
			w.Text([]byte("ab"), 5)
			w.Text([]byte("ab"), 1)
		}
		if w != nil && (w.made || w.spoilt || w.bytes != nil) {
			t.Errorf("%d: %v", at, w)
		}
	}
}

// P5.5: readers that nobody made.
func TestNoReader(t *testing.T) {
	for at, r := range []*Reader{nil, {}, new(Reader)} {
		for range 2 {
			if n, i, s, is, text := r.Uint(), r.Int(), r.Small(5), r.Bit(), r.Text(5); n != 0 || i != 0 || s != 0 || is || text != nil {
				t.Errorf("%d: %d, %d, %d, %v, % X", at, n, i, s, is, text)
			}
			calls := 0
			l := Many(r, 5, func(*Reader) int {
				calls++
				return 1
			})
			if l != nil || calls != 0 || Many[int](r, 5, nil) != nil {
				t.Errorf("%d: %v, %d calls", at, l, calls)
			}
			if r.Left() != 0 || r.End() != api.ErrNil {
				t.Errorf("%d: %d left, %v", at, r.Left(), r.End())
			}
			r.Spoil()
			r.Small(-1)
		}
		if r != nil && (r.made || r.spoilt || r.at != 0) {
			t.Errorf("%d: %v", at, r)
		}
	}
}

// turn turns all bytes that are b's, room behind it too.
func turn(b []byte) {
	b = b[:cap(b)]
	for at := range b {
		b[at] ^= 0xFF
	}
}

// P5.5: what a writer is handed is only read, and not kept; what it answers is new memory.
func TestWriterKeepsNothing(t *testing.T) {
	for length := range 40 {
		text := append(filled(seeded(), length), 1, 2, 3)
		was := slices.Clone(text)
		w := NewWriter()
		w.Text(text[:length], 100)
		if !bytes.Equal(text, was) {
			t.Errorf("%d: % X", length, text)
		}
		turn(text)
		want := append(formOf(uint64(length)), was[:length]...)
		b, _ := w.Bytes()
		if !bytes.Equal(b, want) {
			t.Errorf("% X, not % X", b, want)
		}
		turn(b)
		again, _ := w.Bytes()
		if !bytes.Equal(again, want) {
			t.Errorf("% X, not % X", again, want)
		}
		w.Uint(9)
		longer, _ := w.Bytes()
		turn(again)
		if !bytes.Equal(longer, append(want, 9)) {
			t.Errorf("% X", longer)
		}
		if b, _ := w.Bytes(); !bytes.Equal(b, longer) {
			t.Errorf("% X, not % X", b, longer)
		}
	}
}

// P5.5: what a reader is handed is only read, and not kept; what it answers is new memory.
func TestReaderKeepsNothing(t *testing.T) {
	calls := func(r *Reader) [][]byte {
		return [][]byte{r.Text(10), r.Text(10), r.Text(10)}
	}
	b := []byte("\x03abc\x02de\x01f\x05")
	was := slices.Clone(b)
	r := NewReader(b[:9])
	calls(r)
	if !bytes.Equal(b, was) || r.End() != api.OK {
		t.Errorf("% X, %v", b, r.End())
	}
	r = NewReader(b[:9])
	turn(b)
	for at, want := range []string{"abc", "de", "f"} {
		text := r.Text(10)
		if string(text) != want {
			t.Errorf("%d: %q", at, text)
		}
		turn(text)
	}
	if r.End() != api.OK {
		t.Error(r.End())
	}
	l := calls(NewReader(was))
	turn(l[1])
	if string(l[0]) != "abc" || string(l[2]) != "f" {
		t.Errorf("%q", l)
	}
}

// call is one: how it writes, and how it reads.
type call struct {
	kind, most int
	n          uint64
	text       []byte
	list       []int64
}

// calls are some, that spoil no writer.
func calls(r *rand.Rand) []call {
	var l []call
	for range r.Intn(8) {
		c := call{kind: r.Intn(6), most: r.Intn(1 << r.Intn(12))}
		switch c.kind {
		case 0, 1:
			c.n = r.Uint64() >> r.Intn(64)
		case 2:
			c.n = r.Uint64() % (uint64(c.most) + 1)
		case 3:
			c.n = r.Uint64() % 2
		case 4:
			c.text = filled(r, r.Intn(c.most+1))
		case 5:
			for range r.Intn(c.most + 1) {
				c.list = append(c.list, int64(r.Uint64())>>r.Intn(64))
			}
		}
		l = append(l, c)
	}
	return l
}

func (c call) write(w *Writer) {
	switch c.kind {
	case 0:
		w.Uint(c.n)
	case 1:
		w.Int(int64(c.n))
	case 2:
		w.Small(int(c.n), c.most)
	case 3:
		w.Bit(c.n == 1)
	case 4:
		w.Text(c.text, c.most)
	case 5:
		w.Small(len(c.list), c.most)
		for _, n := range c.list {
			w.Int(n)
		}
	}
}

// read is the same call, with what is read in the place of what was written.
func (c call) read(r *Reader) call {
	got := call{kind: c.kind, most: c.most}
	switch c.kind {
	case 0:
		got.n = r.Uint()
	case 1:
		got.n = uint64(r.Int())
	case 2:
		got.n = uint64(r.Small(c.most))
	case 3:
		if r.Bit() {
			got.n = 1
		}
	case 4:
		got.text = r.Text(c.most)
	case 5:
		got.list = Many(r, c.most, (*Reader).Int)
	}
	return got
}

// same says whether two calls wrote, read the same.
func (c call) same(other call) bool {
	return c.n == other.n && bytes.Equal(c.text, other.text) && slices.Equal(c.list, other.list)
}

// P5.6: what was written is read as it was, call by call, and then the end; cut anywhere it is not, nor with bytes behind.
func TestThereAndBack(t *testing.T) {
	random := seeded()
	for range 3000 {
		l := calls(random)
		b := written(t, func(w *Writer) {
			for _, c := range l {
				c.write(w)
			}
		})
		r := NewReader(b)
		for at, c := range l {
			if got := c.read(r); !c.same(got) {
				t.Fatalf("%d of %v: %v", at, l, got)
			}
		}
		if r.Left() != 0 || r.End() != api.OK {
			t.Fatalf("%v: %d left, %v", l, r.Left(), r.End())
		}
		for _, other := range [][]byte{b[:random.Intn(len(b)+1)], append(slices.Clone(b), 0)} {
			r := NewReader(other)
			for _, c := range l {
				c.read(r)
			}
			if e := r.End(); (e == api.OK) != (len(other) == len(b)) {
				t.Fatalf("%v: % X of % X: %v", l, other, b, e)
			}
		}
	}
}

// P5.6: what is read, written again by the same calls, are the bytes that were read.
func TestBackAndThere(t *testing.T) {
	random := seeded()
	right := 0
	for range 100000 {
		b := filled(random, random.Intn(12))
		if random.Intn(2) == 0 {
			// Small numbers, and forms that may be too long, are met more often.
			for at := range b {
				b[at] &= 0x83
			}
		}
		r, w := NewReader(b), NewWriter()
	reading:
		for _, c := range calls(random) {
			got := c.read(r)
			if r.spoilt {
				break reading
			}
			got.write(w)
			if again, e := w.Bytes(); e != api.OK || !bytes.Equal(again, b[:r.at]) {
				t.Fatalf("% X: % X, %v", b[:r.at], again, e)
			}
		}
		if r.End() == api.OK && r.at > 0 {
			right++
		}
	}
	if right < 500 {
		t.Errorf("only %d were read up to their ends", right)
	}
}

// P5.6: no form is the beginning of another one, of signed numbers neither.
func TestNoFormBeginsAnother(t *testing.T) {
	var l []string
	for _, n := range numbers() {
		l = append(l, string(written(t, func(w *Writer) { w.Uint(n) })), string(written(t, func(w *Writer) { w.Int(int64(n)) })))
	}
	slices.Sort(l)
	l = slices.Compact(l)
	// What a text is the beginning of stands right behind it.
	for at := range len(l) - 1 {
		if f, next := l[at], l[at+1]; len(f) < len(next) && next[:len(f)] == f {
			t.Errorf("% X, % X", f, next)
		}
	}
}

// A form is told as often as one likes, and no further than it is wanted.
func TestForm(t *testing.T) {
	for _, n := range numbers() {
		f := form(n)
		for range 2 {
			if b := slices.Collect(f); !bytes.Equal(b, formOf(n)) {
				t.Errorf("%d: % X", n, b)
			}
		}
		for want := range formOf(n) {
			told := 0
			for range f {
				if told == want {
					break
				}
				told++
			}
			if told != want {
				t.Errorf("%d: %d, not %d", n, told, want)
			}
		}
	}
}
