package format

import (
	"bytes"
	"encoding/binary"
	"hash/crc32"
	"math"
	"math/rand"
	"reflect"
	"strings"
	"testing"

	"mullion/api"
	"mullion/scene"
)

const (
	top    = math.MaxInt64
	bottom = math.MinInt64
)

func diagonal(n int64) api.Matrix {
	return api.Matrix{{n}, {0, n}, {0, 0, n}, {0, 0, 0, n}}
}

// counted is numbers that are all unlike, row by row.
func counted(from int64) api.Matrix {
	var m api.Matrix
	for k := range 16 {
		m[k/4][k%4] = from + int64(k)
	}
	return m
}

// sample is two objects of numbers that are all unlike, so that none can stand in another one's place.
func sample() api.Scene {
	return api.Scene{W: 4, H: 3, Camera: counted(-8), Objects: []api.Object{
		{ID: 7, M: counted(16), Verts: [][3]int64{{1, -2, 3}, {400, -500, 600}, {1 << 30, -1 << 30, 0}}, Tris: []api.Tri{{A: 0, B: 1, C: 2, Color: 0xFFFFFFFF}, {A: 2, B: 0, C: 1, Color: 300}}},
		{ID: 300, M: counted(40), Verts: [][3]int64{{-1, 0, 1}}, Tris: []api.Tri{{Color: 5}}},
	}}
}

// full is as many of all as may be, in as many bytes as may be.
func full() api.Scene {
	s := api.Scene{W: 64, H: 64}
	for k := range 16 {
		s.Camera[k/4][k%4] = 1 << 16
		o := api.Object{ID: 65535 - k}
		for at := range 16 {
			o.M[at/4][at%4] = 1 << 24
		}
		for range 64 {
			o.Verts = append(o.Verts, [3]int64{1 << 30, 1 << 30, 1 << 30})
			o.Tris = append(o.Tris, api.Tri{A: 63, B: 63, C: 63, Color: math.MaxUint32})
		}
		s.Objects = append(s.Objects, o)
	}
	return s
}

// deep is a copy, of which lists that are empty are nil.
func deep(s api.Scene) api.Scene {
	twin := s
	twin.Objects = nil
	for _, o := range s.Objects {
		o.Verts = append([][3]int64(nil), o.Verts...)
		o.Tris = append([]api.Tri(nil), o.Tris...)
		twin.Objects = append(twin.Objects, o)
	}
	return twin
}

func deepFilm(l []api.Scene) []api.Scene {
	var twins []api.Scene
	for _, s := range l {
		twins = append(twins, deep(s))
	}
	return twins
}

func same(a, b api.Scene) bool {
	return reflect.DeepEqual(deep(a), deep(b))
}

// seal puts the sum behind, by the library's.
func seal(form []byte) []byte {
	b := bytes.Clone(form)
	return binary.LittleEndian.AppendUint32(b, crc32.ChecksumIEEE(form))
}

func appendMatrix(b []byte, m api.Matrix) []byte {
	for _, row := range m {
		for _, n := range row {
			b = binary.AppendVarint(b, n)
		}
	}
	return b
}

// formOf is a scene's form by the chapter's words, without the limits.
func formOf(s api.Scene) []byte {
	b := []byte{0x6D, 0x75, 0x6C, 0x31}
	b = binary.AppendUvarint(b, uint64(s.W))
	b = binary.AppendUvarint(b, uint64(s.H))
	b = appendMatrix(b, s.Camera)
	b = binary.AppendUvarint(b, uint64(len(s.Objects)))
	for _, o := range s.Objects {
		b = binary.AppendUvarint(b, uint64(o.ID))
		b = appendMatrix(b, o.M)
		b = binary.AppendUvarint(b, uint64(len(o.Verts)))
		for _, v := range o.Verts {
			for _, n := range v {
				b = binary.AppendVarint(b, n)
			}
		}
		b = binary.AppendUvarint(b, uint64(len(o.Tris)))
		for _, t := range o.Tris {
			for _, n := range []int{t.A, t.B, t.C} {
				b = binary.AppendUvarint(b, uint64(n))
			}
			b = binary.AppendUvarint(b, uint64(t.Color))
		}
	}
	return b
}

// filmForm is a film's form of any texts.
func filmForm(texts ...[]byte) []byte {
	b := []byte{0x6D, 0x75, 0x6C, 0x66}
	b = binary.AppendUvarint(b, uint64(len(texts)))
	for _, text := range texts {
		b = binary.AppendUvarint(b, uint64(len(text)))
		b = append(b, text...)
	}
	return b
}

// cursor reads what is left of a form, by the chapter's words.
type cursor struct {
	left []byte
	bad  bool
}

func (c *cursor) uint(most uint64) int {
	n, length := binary.Uvarint(c.left)
	if c.bad || length <= 0 || n > most || len(binary.AppendUvarint(nil, n)) != length {
		c.bad = true
		return 0
	}
	c.left = c.left[length:]
	return int(n)
}

func (c *cursor) int() int64 {
	n, length := binary.Varint(c.left)
	if c.bad || length <= 0 || len(binary.AppendVarint(nil, n)) != length {
		c.bad = true
		return 0
	}
	c.left = c.left[length:]
	return n
}

func (c *cursor) matrix() (m api.Matrix) {
	for k := range 16 {
		m[k/4][k%4] = c.int()
	}
	return m
}

// frame reads up to how many objects there are.
func (c *cursor) frame() (s api.Scene, objects int) {
	if !bytes.HasPrefix(c.left, []byte("mul1")) {
		c.bad = true
		return s, 0
	}
	c.left = c.left[4:]
	s.W = c.uint(64)
	s.H = c.uint(64)
	s.Camera = c.matrix()
	return s, c.uint(16)
}

// scene reads a whole form, and nothing behind it.
func (c *cursor) scene() api.Scene {
	s, objects := c.frame()
	for range objects {
		var o api.Object
		o.ID = c.uint(65535)
		o.M = c.matrix()
		for range c.uint(64) {
			var v [3]int64
			v[0] = c.int()
			v[1] = c.int()
			v[2] = c.int()
			o.Verts = append(o.Verts, v)
		}
		for range c.uint(64) {
			var t api.Tri
			t.A = c.uint(63)
			t.B = c.uint(63)
			t.C = c.uint(63)
			t.Color = uint32(c.uint(1<<32 - 1))
			o.Tris = append(o.Tris, t)
		}
		s.Objects = append(s.Objects, o)
	}
	c.bad = c.bad || len(c.left) > 0
	return s
}

// want is what Decode should answer of a form that was sealed.
func want(form []byte) (api.Scene, api.Errno) {
	c := &cursor{left: form}
	s := c.scene()
	switch {
	case c.bad:
		return api.Scene{}, api.ErrFormat
	case scene.Check(s) != api.OK:
		return api.Scene{}, api.ErrScene
	}
	return s, api.OK
}

// holdDecode holds Decode and Head against what they should answer of a form that was sealed; and the bytes against those of what was read.
func holdDecode(t *testing.T, name string, form []byte) api.Errno {
	t.Helper()
	b := seal(form)
	ought, fault := want(form)
	s, e := Decode(b)
	if e != fault || !same(s, ought) {
		t.Errorf("%s: Decode of % X is %v, %v, not %v, %v", name, form, s, e, ought, fault)
	}
	if back, again := Encode(s); e == api.OK && (again != api.OK || !bytes.Equal(back, b)) {
		t.Errorf("%s: Encode of Decode of % X is % X, %v", name, b, back, again)
	}
	c := &cursor{left: form}
	frame, objects := c.frame()
	if c.bad {
		holdHead(t, name, b, 0, 0, 0, api.ErrFormat)
	} else {
		holdHead(t, name, b, frame.W, frame.H, objects, api.OK)
	}
	return e
}

func holdHead(t *testing.T, name string, b []byte, w, h, objects int, fault api.Errno) {
	t.Helper()
	if gotW, gotH, got, e := Head(b); gotW != w || gotH != h || got != objects || e != fault {
		t.Errorf("%s: Head of % X is %d %d %d, %v, not %d %d %d, %v", name, b, gotW, gotH, got, e, w, h, objects, fault)
	}
}

// holdSum holds all readers of bytes that are not sealed.
func holdSum(t *testing.T, name string, b []byte) {
	t.Helper()
	if s, e := Decode(b); e != api.ErrSum || !reflect.DeepEqual(s, api.Scene{}) {
		t.Errorf("%s: Decode is %v, %v", name, s, e)
	}
	if l, e := Split(b); e != api.ErrSum || l != nil {
		t.Errorf("%s: Split is %v, %v", name, l, e)
	}
	holdHead(t, name, b, 0, 0, 0, api.ErrSum)
}

// holdEncode holds Encode and Size against what they should answer.
func holdEncode(t *testing.T, name string, s api.Scene) {
	t.Helper()
	var ought []byte
	fault := api.ErrScene
	if scene.Check(s) == api.OK {
		ought, fault = seal(formOf(s)), api.OK
	}
	if b, e := Encode(s); e != fault || !bytes.Equal(b, ought) {
		t.Errorf("%s: Encode is % X, %v, not % X, %v", name, b, e, ought, fault)
	}
	if n, e := Size(s); e != fault || n != len(ought) {
		t.Errorf("%s: Size is %d, %v, not %d, %v", name, n, e, len(ought), fault)
	}
}

func encoded(t *testing.T, s api.Scene) []byte {
	t.Helper()
	b, e := Encode(s)
	if e != api.OK {
		t.Fatal(e)
	}
	return b
}

func joined(t *testing.T, l ...api.Scene) []byte {
	t.Helper()
	b, e := Join(l)
	if e != api.OK {
		t.Fatal(e)
	}
	return b
}

// turned is the sample, turned.
func turned(turn func(s *api.Scene)) api.Scene {
	s := sample()
	turn(&s)
	return s
}

// some is a scene by chance, which may be.
func some(r *rand.Rand) api.Scene {
	s := api.Scene{W: 1 + r.Intn(64), H: 1 + r.Intn(64), Camera: someMatrix(r)}
	for k := range r.Intn(17) {
		o := api.Object{ID: 1 + k*4000 + r.Intn(4000), M: someMatrix(r)}
		for range 1 + r.Intn(64) {
			o.Verts = append(o.Verts, [3]int64{someNumber(r, 1<<30), someNumber(r, 1<<30), someNumber(r, 1<<30)})
		}
		for range r.Intn(65) {
			n := len(o.Verts)
			o.Tris = append(o.Tris, api.Tri{A: r.Intn(n), B: r.Intn(n), C: r.Intn(n), Color: r.Uint32() >> r.Intn(32)})
		}
		s.Objects = append(s.Objects, o)
	}
	return s
}

// someMatrix is within 2^19, so that a product of two is within 2^26.
func someMatrix(r *rand.Rand) (m api.Matrix) {
	for k := range 16 {
		m[k/4][k%4] = someNumber(r, 1<<19)
	}
	return m
}

// someNumber is of any length, within a bound.
func someNumber(r *rand.Rand, bound int64) int64 {
	return (r.Int63n(2*bound+1) - bound) >> r.Intn(24)
}

// edit is what a scene is turned by, and what Decode answers of its form then.
type edit struct {
	name  string
	fault api.Errno
	turn  func(s *api.Scene)
}

// edits are at each limit of a form, and of a scene.
func edits() []edit {
	return []edit{
		{"nothing", api.OK, func(s *api.Scene) {}},
		{"W 1", api.OK, func(s *api.Scene) { s.W = 1 }},
		{"H 64", api.OK, func(s *api.Scene) { s.H = 64 }},
		{"W 0", api.ErrScene, func(s *api.Scene) { s.W = 0 }},
		{"H 0", api.ErrScene, func(s *api.Scene) { s.H = 0 }},
		{"W 65", api.ErrFormat, func(s *api.Scene) { s.W = 65 }},
		{"H 65", api.ErrFormat, func(s *api.Scene) { s.H = 65 }},
		{"W below 0", api.ErrFormat, func(s *api.Scene) { s.W = -1 }},
		{"W 2^32 and 4", api.ErrFormat, func(s *api.Scene) { s.W = 1<<32 + 4 }},
		{"camera at its bound", api.OK, func(s *api.Scene) { s.Camera[3][3] = -1 << 24 }},
		{"camera beyond", api.ErrScene, func(s *api.Scene) { s.Camera[0][1] = 1<<24 + 1 }},
		{"camera the least", api.ErrScene, func(s *api.Scene) { s.Camera[0][0] = bottom }},
		{"camera the greatest", api.ErrScene, func(s *api.Scene) { s.Camera[3][0] = top }},
		{"no objects", api.OK, func(s *api.Scene) { s.Objects = nil }},
		{"16 objects", api.OK, func(s *api.Scene) { fill(s, 16) }},
		{"17 objects", api.ErrFormat, func(s *api.Scene) { fill(s, 17) }},
		{"the ID 1", api.OK, func(s *api.Scene) { s.Objects[1].ID = 1 }},
		{"the ID 65535", api.OK, func(s *api.Scene) { s.Objects[0].ID = 65535 }},
		{"the ID 0", api.ErrScene, func(s *api.Scene) { s.Objects[1].ID = 0 }},
		{"the ID 65536", api.ErrFormat, func(s *api.Scene) { s.Objects[1].ID = 65536 }},
		{"IDs the same", api.ErrScene, func(s *api.Scene) { s.Objects[1].ID = 7 }},
		{"M at its bound", api.OK, func(s *api.Scene) { s.Objects[0].M = diagonal(1 << 24) }},
		{"M beyond", api.ErrScene, func(s *api.Scene) { s.Objects[0].M[2][3] = -1<<24 - 1 }},
		{"both beyond", api.ErrScene, func(s *api.Scene) { s.Camera, s.Objects[0].M = diagonal(1<<24), diagonal(1<<24) }},
		{"no vertices", api.OK, func(s *api.Scene) { s.Objects[1].Verts, s.Objects[1].Tris = nil, nil }},
		{"64 vertices", api.OK, func(s *api.Scene) { s.Objects[0].Verts = make([][3]int64, 64) }},
		{"65 vertices", api.ErrFormat, func(s *api.Scene) { s.Objects[0].Verts = make([][3]int64, 65) }},
		{"vertex beyond", api.ErrScene, func(s *api.Scene) { s.Objects[0].Verts[2][2] = 1<<30 + 1 }},
		{"vertex the least", api.ErrScene, func(s *api.Scene) { s.Objects[1].Verts[0][0] = bottom }},
		{"no triangles", api.OK, func(s *api.Scene) { s.Objects[0].Tris = nil }},
		{"64 triangles", api.OK, func(s *api.Scene) { s.Objects[0].Tris = make([]api.Tri, 64) }},
		{"65 triangles", api.ErrFormat, func(s *api.Scene) { s.Objects[0].Tris = make([]api.Tri, 65) }},
		{"A 3", api.ErrScene, func(s *api.Scene) { s.Objects[0].Tris[0].A = 3 }},
		{"B 63", api.ErrScene, func(s *api.Scene) { s.Objects[0].Tris[0].B = 63 }},
		{"C 1", api.ErrScene, func(s *api.Scene) { s.Objects[1].Tris[0].C = 1 }},
		{"A 64", api.ErrFormat, func(s *api.Scene) { s.Objects[0].Tris[0].A = 64 }},
		{"B 64", api.ErrFormat, func(s *api.Scene) { s.Objects[0].Tris[0].B = 64 }},
		{"C 64", api.ErrFormat, func(s *api.Scene) { s.Objects[1].Tris[0].C = 64 }},
		{"C below 0", api.ErrFormat, func(s *api.Scene) { s.Objects[1].Tris[0].C = -1 }},
		{"all wrong, form and scene", api.ErrFormat, func(s *api.Scene) { s.W, s.Objects[1].Tris[0].C = 0, 64 }},
	}
}

// fill makes a scene's objects that many.
func fill(s *api.Scene, many int) {
	s.Objects = nil
	for k := range many {
		s.Objects = append(s.Objects, api.Object{ID: k + 1})
	}
}

// P7.1 to P7.3: the chapter's examples.
func TestExamples(t *testing.T) {
	bare := api.Scene{W: 1, H: 1}
	form := append([]byte{0x6D, 0x75, 0x6C, 0x31, 1, 1}, make([]byte, 17)...)
	b := encoded(t, bare)
	if len(b) != 27 || !bytes.Equal(b, seal(form)) {
		t.Errorf("% X", b)
	}
	bare.Camera = diagonal(1 << 16)
	if n, e := Size(bare); n != 35 || e != api.OK {
		t.Error(n, e)
	}
	holdSum(t, "nothing", nil)
	if _, e := Decode(seal([]byte{0x6D, 0x75, 0x6C, 0x32})); e != api.ErrFormat {
		t.Error(e)
	}
	form[4] = 0
	if _, e := Decode(seal(form)); e != api.ErrScene {
		t.Error(e)
	}
	head := append([]byte{0x6D, 0x75, 0x6C, 0x31, 5, 6}, make([]byte, 16)...)
	holdHead(t, "5 6 2", seal(append(head, 2)), 5, 6, 2, api.OK)
	if b, e := Join(nil); e != api.OK || !bytes.Equal(b, seal([]byte{0x6D, 0x75, 0x6C, 0x66, 0})) {
		t.Errorf("% X, %v", b, e)
	}
}

// P7.1: bytes that are known, number by number.
func TestKnownBytes(t *testing.T) {
	form := "mul1\x04\x03" +
		"\x0F\x0D\x0B\x09\x07\x05\x03\x01\x00\x02\x04\x06\x08\x0A\x0C\x0E" + // -8 to 7
		"\x02" +
		"\x07" + "\x20\x22\x24\x26\x28\x2A\x2C\x2E\x30\x32\x34\x36\x38\x3A\x3C\x3E" + // 16 to 31
		"\x03" + "\x02\x03\x06" + "\xA0\x06\xE7\x07\xB0\x09" + "\x80\x80\x80\x80\x08\xFF\xFF\xFF\xFF\x07\x00" +
		"\x02" + "\x00\x01\x02\xFF\xFF\xFF\xFF\x0F" + "\x02\x00\x01\xAC\x02" +
		"\xAC\x02" + "\x50\x52\x54\x56\x58\x5A\x5C\x5E\x60\x62\x64\x66\x68\x6A\x6C\x6E" + // 40 to 55
		"\x01" + "\x01\x00\x02" +
		"\x01" + "\x00\x00\x00\x05"
	b := encoded(t, sample())
	if string(b[:len(b)-4]) != form || !bytes.Equal(b, seal([]byte(form))) {
		t.Errorf("% X, not % X", b, form)
	}
	if n, e := Size(sample()); n != len(form)+4 || e != api.OK {
		t.Error(n, e)
	}
	if s, e := Decode(b); e != api.OK || !same(s, sample()) {
		t.Error(s, e)
	}
	holdHead(t, "sample", b, 4, 3, 2, api.OK)
}

// P7.1: a scene that may not be has no bytes.
func TestEncode(t *testing.T) {
	for _, x := range edits() {
		holdEncode(t, x.name, turned(x.turn))
	}
	holdEncode(t, "full", full())
	holdEncode(t, "zero", api.Scene{})
	lists := api.Scene{W: 1, H: 1, Objects: []api.Object{{ID: 1, Verts: [][3]int64{}, Tris: []api.Tri{}}}}
	nils := api.Scene{W: 1, H: 1, Objects: []api.Object{{ID: 1}}}
	if !bytes.Equal(encoded(t, lists), encoded(t, nils)) {
		t.Error("nil lists are as empty ones")
	}
	if n, e := Size(full()); n >= 1<<16 || e != api.OK {
		t.Error("the greatest scene goes into a film", n, e)
	}
	r := rand.New(rand.NewSource(71))
	for range 200 {
		holdEncode(t, "some", some(r))
	}
}

// P7.2: each limit of a form, and each rule of a scene; what is no form is told ahead of what may not be.
func TestDecodeLimits(t *testing.T) {
	for _, x := range edits() {
		if e := holdDecode(t, x.name, formOf(turned(x.turn))); e != x.fault {
			t.Errorf("%s: %v, not %v", x.name, e, x.fault)
		}
	}
	if e := holdDecode(t, "full", formOf(full())); e != api.OK {
		t.Error(e)
	}
	if e := holdDecode(t, "zero", formOf(api.Scene{})); e != api.ErrScene {
		t.Error(e)
	}
	if e := holdDecode(t, "zero, and more", append(formOf(api.Scene{}), 0)); e != api.ErrFormat {
		t.Error(e)
	}
}

// P7.2: a colour is below 2^32.
func TestColors(t *testing.T) {
	s := api.Scene{W: 1, H: 1, Objects: []api.Object{{ID: 1, Verts: make([][3]int64, 1), Tris: make([]api.Tri, 1)}}}
	form := formOf(s)
	for _, x := range []struct {
		color uint64
		fault api.Errno
	}{
		{0, api.OK}, {1, api.OK}, {127, api.OK}, {128, api.OK}, {1 << 31, api.OK}, {1<<32 - 1, api.OK},
		{1 << 32, api.ErrFormat}, {1<<32 + 5, api.ErrFormat}, {1 << 63, api.ErrFormat}, {math.MaxUint64, api.ErrFormat},
	} {
		b := binary.AppendUvarint(bytes.Clone(form[:len(form)-1]), x.color)
		if e := holdDecode(t, "colour", b); e != x.fault {
			t.Error(x.color, e)
		}
		if s, e := Decode(seal(b)); e == api.OK && uint64(s.Objects[0].Tris[0].Color) != x.color {
			t.Error(x.color, s)
		}
	}
}

// P7.2: what ends too early, goes on, or begins as another thing does is no form.
func TestNoForm(t *testing.T) {
	form := formOf(sample())
	for n := range form {
		if e := holdDecode(t, "cut", form[:n]); e != api.ErrFormat {
			t.Error(n, e)
		}
	}
	for _, behind := range []string{"\x00", "\x01", "\xFF", "mul1", "\x00\x00\x00\x00\x00"} {
		if e := holdDecode(t, "more", append(bytes.Clone(form), behind...)); e != api.ErrFormat {
			t.Errorf("% X: %v", behind, e)
		}
	}
	for at := range 4 {
		for _, bit := range []byte{1, 4, 32, 128} {
			b := bytes.Clone(form)
			b[at] ^= bit
			if e := holdDecode(t, "mark", b); e != api.ErrFormat {
				t.Error(at, bit, e)
			}
		}
	}
	for _, x := range []string{"", "mul", "mul1", "MUL1", "mulf", "mulf\x00", "1lum", "\x00" + string(form), string(form[1:]), string(form[4:]), "mul1" + string(form)} {
		if e := holdDecode(t, "another begin", []byte(x)); e != api.ErrFormat {
			t.Errorf("%q: %v", x, e)
		}
	}
}

// P7.2: each number's form is as short as can be, and of at most 64 bits.
func TestLongNumbers(t *testing.T) {
	bare := formOf(api.Scene{W: 1, H: 1, Objects: []api.Object{{ID: 1, Verts: make([][3]int64, 1), Tris: make([]api.Tri, 1)}}})
	for at := 4; at < len(bare); at++ {
		long := append(bytes.Clone(bare[:at]), bare[at]|128, 0)
		if e := holdDecode(t, "longer than must be", append(long, bare[at+1:]...)); e != api.ErrFormat {
			t.Error(at, e)
		}
		over := append(bytes.Clone(bare[:at]), "\x80\x80\x80\x80\x80\x80\x80\x80\x80\x02"...)
		if e := holdDecode(t, "more than 64 bits", append(over, bare[at+1:]...)); e != api.ErrFormat {
			t.Error(at, e)
		}
	}
}

// P7.2: what is not sealed is told ahead of all else.
func TestSums(t *testing.T) {
	b := encoded(t, sample())
	for n := range b {
		holdSum(t, "cut", b[:n])
	}
	holdSum(t, "more", append(bytes.Clone(b), 0))
	holdSum(t, "the form alone", formOf(sample()))
	wrong := formOf(api.Scene{})
	holdSum(t, "wrong, and no sum", append(wrong, 0, 0, 0, 0))
	for _, x := range []string{"\x00", "mul1", "mulf\x00", "\xFF\xFF\xFF\xFF"} {
		holdSum(t, "no sum", []byte(x))
	}
	other := seal(formOf(sample()))
	for at := 1; at <= 4; at++ {
		spoilt := bytes.Clone(other)
		spoilt[len(spoilt)-at]++
		holdSum(t, "another sum", spoilt)
	}
}

// P7.2: what stands behind how many objects there are is not looked at; what stands ahead of it is.
func TestHead(t *testing.T) {
	frame := formOf(api.Scene{W: 64, H: 0, Camera: counted(bottom)})
	frame = frame[:len(frame)-1]
	for _, x := range []struct {
		tail    string
		objects int
		fault   api.Errno
	}{
		{"\x00", 0, api.OK}, {"\x10", 16, api.OK}, {"\x02", 2, api.OK}, {"\x03\xFF\xFF\xFF", 3, api.OK}, {"\x01\x80", 1, api.OK}, {"\x00\x00", 0, api.OK},
		{"\x11", 0, api.ErrFormat}, {"\x11\x00\x00", 0, api.ErrFormat}, {"", 0, api.ErrFormat}, {"\x80", 0, api.ErrFormat}, {"\x80\x00", 0, api.ErrFormat}, {"\x82\x80\x00", 0, api.ErrFormat},
	} {
		w := 64
		if x.fault != api.OK {
			w = 0
		}
		holdHead(t, "tail", seal(append(bytes.Clone(frame), x.tail...)), w, 0, x.objects, x.fault)
	}
	for n := range frame {
		holdHead(t, "cut", seal(frame[:n]), 0, 0, 0, api.ErrFormat)
	}
	// A frame that ends where its bytes do is not one that ends too early.
	whole := seal(append(bytes.Clone(frame), 5))
	holdHead(t, "at the end", whole, 64, 0, 5, api.OK)
	holdHead(t, "a film", joined(t, sample()), 0, 0, 0, api.ErrFormat)
	if _, e := Decode(whole); e != api.ErrFormat {
		t.Error(e)
	}
}

// P7.2: forms by chance, turned and sealed anew, against what the chapter says of them.
func TestTurnedForms(t *testing.T) {
	r := rand.New(rand.NewSource(72))
	var met [api.ErrFormat + 1]int
	for range 30000 {
		s := sample()
		if r.Intn(3) == 0 {
			s = api.Scene{W: 2, H: 9, Objects: []api.Object{{ID: 3, Verts: make([][3]int64, 2), Tris: make([]api.Tri, 2)}}}
		}
		form := formOf(s)
		for range 1 + r.Intn(3) {
			form = turnedForm(r, form)
		}
		met[holdDecode(t, "turned", form)]++
		if t.Failed() {
			return
		}
	}
	for _, e := range []api.Errno{api.OK, api.ErrScene, api.ErrFormat} {
		if met[e] < 100 {
			t.Errorf("%v was met %d times", e, met[e])
		}
	}
}

// turnedForm has a byte behind the mark turned, put in, or taken out.
func turnedForm(r *rand.Rand, form []byte) []byte {
	if len(form) < 5 {
		return form
	}
	at := 4 + r.Intn(len(form)-4)
	b := bytes.Clone(form)
	switch r.Intn(5) {
	case 0:
		return append(b[:at], form[at+1:]...)
	case 1:
		return append(append(b[:at], byte(r.Intn(256))), form[at:]...)
	case 2:
		b[at] ^= 1 << r.Intn(8)
	case 3:
		b[at] = byte(r.Intn(256))
	default:
		b[at] += byte(r.Intn(3) - 1)
	}
	return b
}

// holdJoin holds a film there and back.
func holdJoin(t *testing.T, name string, l []api.Scene) {
	t.Helper()
	var texts [][]byte
	for _, s := range l {
		texts = append(texts, seal(formOf(s)))
	}
	b, e := Join(l)
	if e != api.OK || !bytes.Equal(b, seal(filmForm(texts...))) {
		t.Errorf("%s: Join is % X, %v", name, b, e)
	}
	film, e := Split(b)
	if e != api.OK || !reflect.DeepEqual(deepFilm(film), deepFilm(l)) {
		t.Errorf("%s: Split is %v, %v", name, film, e)
	}
	if again, e := Join(film); e != api.OK || !bytes.Equal(again, b) {
		t.Errorf("%s: Join of Split is % X, %v", name, again, e)
	}
}

// P7.3, P7.5: films there and back, from none to 100 scenes.
func TestFilms(t *testing.T) {
	r := rand.New(rand.NewSource(73))
	holdJoin(t, "none", nil)
	holdJoin(t, "no scene", []api.Scene{})
	holdJoin(t, "one", []api.Scene{sample()})
	holdJoin(t, "the same twice", []api.Scene{sample(), sample()})
	var small, great []api.Scene
	for k := range 100 {
		small = append(small, api.Scene{W: 1 + k%64, H: 1 + k/64})
		great = append(great, full())
	}
	holdJoin(t, "100 small ones", small)
	holdJoin(t, "100 great ones", great)
	for range 40 {
		var l []api.Scene
		for range r.Intn(8) {
			l = append(l, some(r))
		}
		holdJoin(t, "some", l)
	}
}

// P7.3: too many are told ahead of those that may not be.
func TestJoinErrors(t *testing.T) {
	hold := func(name string, l []api.Scene, fault api.Errno) {
		t.Helper()
		if b, e := Join(l); e != fault || b != nil {
			t.Errorf("%s: % X, %v", name, b, e)
		}
	}
	var many []api.Scene
	for range 101 {
		many = append(many, sample())
	}
	hold("101", many, api.ErrArg)
	hold("101 that may not be", make([]api.Scene, 101), api.ErrArg)
	hold("one that may not be", make([]api.Scene, 1), api.ErrScene)
	for at := range 100 {
		l := deepFilm(many[:100])
		l[at].H = 65
		hold("one of 100", l, api.ErrScene)
	}
	for _, x := range edits() {
		if s := turned(x.turn); x.fault != api.OK {
			hold(x.name, []api.Scene{sample(), s, sample()}, api.ErrScene)
		}
	}
}

// holdSplit holds Split against an error, of a form that is sealed.
func holdSplit(t *testing.T, name string, form []byte, fault api.Errno) {
	t.Helper()
	l, e := Split(seal(form))
	if e != fault || fault != api.OK && l != nil {
		t.Errorf("%s: Split is %v, %v, not %v", name, l, e, fault)
	}
}

// P7.3: what is no film's form, whatever its scenes are.
func TestNoFilm(t *testing.T) {
	good := seal(formOf(sample()))
	form := filmForm(good, good)
	holdSplit(t, "whole", form, api.OK)
	for n := range form {
		holdSplit(t, "cut", form[:n], api.ErrFormat)
	}
	holdSplit(t, "more", append(bytes.Clone(form), 0), api.ErrFormat)
	holdSplit(t, "a scene", formOf(sample()), api.ErrFormat)
	holdSplit(t, "no mark", form[4:], api.ErrFormat)
	for at := range 4 {
		b := bytes.Clone(form)
		b[at] ^= 1
		holdSplit(t, "mark", b, api.ErrFormat)
	}
	var texts [][]byte
	for range 101 {
		texts = append(texts, seal(formOf(api.Scene{W: 1, H: 1})))
	}
	holdSplit(t, "100", filmForm(texts[:100]...), api.OK)
	holdSplit(t, "101", filmForm(texts...), api.ErrFormat)
	holdSplit(t, "a count that is longer than must be", []byte("mulf\x80\x00"), api.ErrFormat)
	holdSplit(t, "one of one byte, cut", []byte("mulf\x01\x01"), api.ErrFormat)
	sumless := []byte("no sum here")
	holdSplit(t, "a bad scene, and more", append(filmForm(sumless), 0), api.ErrFormat)
	cut := filmForm(sumless, good)
	holdSplit(t, "a bad scene, and one that is cut", cut[:len(cut)-1], api.ErrFormat)
}

// P7.3: a scene's bytes are at most 65536.
func TestLongScenes(t *testing.T) {
	long := make([]byte, 65537)
	holdSplit(t, "65536", filmForm(long[:65536]), api.ErrSum)
	holdSplit(t, "65537", filmForm(long), api.ErrFormat)
	holdSplit(t, "65537 behind one without a sum", filmForm(long[:9], long), api.ErrFormat)
	text := seal(append(formOf(sample()), long...))
	holdSplit(t, "65536, sealed", filmForm(seal(long[:65532])), api.ErrFormat)
	holdSplit(t, "longer, sealed", filmForm(text), api.ErrFormat)
}

// P7.3: of the first scene that is wrong, what Decode answers.
func TestFirstWrong(t *testing.T) {
	good := seal(formOf(sample()))
	faults := []struct {
		text  []byte
		fault api.Errno
	}{
		{[]byte("no sum here"), api.ErrSum},
		{nil, api.ErrSum},
		{seal(formOf(api.Scene{})), api.ErrScene},
		{seal([]byte("mul2")), api.ErrFormat},
		{seal(filmForm()), api.ErrFormat},
		{seal(append(formOf(sample()), 0)), api.ErrFormat},
	}
	for _, x := range faults {
		holdSplit(t, "alone", filmForm(x.text), x.fault)
		holdSplit(t, "last", filmForm(good, good, x.text), x.fault)
		holdSplit(t, "in the middle", filmForm(good, x.text, good), x.fault)
		for _, y := range faults {
			holdSplit(t, "first of two", filmForm(x.text, y.text), x.fault)
			holdSplit(t, "first of two, apart", filmForm(good, x.text, good, y.text, good), x.fault)
		}
	}
}

// P7.5: scenes there and back.
func TestThereAndBack(t *testing.T) {
	r := rand.New(rand.NewSource(75))
	l := []api.Scene{sample(), full(), {W: 1, H: 1}}
	for range 300 {
		l = append(l, some(r))
	}
	for _, s := range l {
		b := encoded(t, s)
		back, e := Decode(b)
		if e != api.OK || !same(back, s) {
			t.Fatal(back, s, e)
		}
		if again := encoded(t, back); !bytes.Equal(again, b) {
			t.Fatalf("% X, not % X", again, b)
		}
		holdHead(t, "some", b, s.W, s.H, len(s.Objects), api.OK)
	}
}

// P7.5: bits that are turned within 32 leave no scene, nor a film.
func TestBursts(t *testing.T) {
	r := rand.New(rand.NewSource(76))
	for _, b := range [][]byte{encoded(t, api.Scene{W: 1, H: 1}), encoded(t, sample()), joined(t, sample(), sample())} {
		for first := range 8 * len(b) {
			for k := range 30 {
				burst := uint64(r.Uint32())>>r.Intn(32) | 1
				if k == 0 {
					burst = 1
				}
				spoilt := bytes.Clone(b)
				for bit := range 32 {
					if at := first + bit; burst>>bit&1 == 1 && at < 8*len(b) {
						spoilt[at/8] ^= 1 << (at % 8)
					}
				}
				holdSum(t, "burst", spoilt)
			}
		}
	}
}

// P7.4: what is handed in is only read, and what a list has room for behind its end too.
func TestOnlyRead(t *testing.T) {
	s := sample()
	s.Objects = append(make([]api.Object, 0, 9), s.Objects...)
	before := deep(s)
	l := []api.Scene{s, full(), sample()}
	film := deepFilm(l)
	b := encoded(t, s)
	Size(s)
	j := joined(t, l...)
	if !same(s, before) || !reflect.DeepEqual(deepFilm(l), film) || s.Objects[:9][2].ID != 0 {
		t.Error("a scene was turned")
	}
	for _, text := range [][]byte{b, j, seal(formOf(api.Scene{})), seal([]byte("mul1")), seal([]byte("mulf\x05"))} {
		room := append(bytes.Clone(text), strings.Repeat("\xAA", 60)...)
		kept := bytes.Clone(room)
		Decode(room[:len(text)])
		Head(room[:len(text)])
		Split(room[:len(text)])
		if !bytes.Equal(room, kept) {
			t.Error("bytes were turned")
		}
	}
}

// spoil turns each number of a scene's lists, and what they have room for.
func spoil(s api.Scene) {
	for k := range s.Objects[:cap(s.Objects)] {
		o := &s.Objects[:cap(s.Objects)][k]
		for at := range o.Verts[:cap(o.Verts)] {
			o.Verts[:cap(o.Verts)][at] = [3]int64{-7, -7, -7}
		}
		for at := range o.Tris[:cap(o.Tris)] {
			o.Tris[:cap(o.Tris)][at] = api.Tri{A: -7, B: -7, C: -7}
		}
		*o = api.Object{ID: -7}
	}
}

// P7.4: what is answered is new memory, and nothing is kept.
func TestNewMemory(t *testing.T) {
	s := sample()
	b := encoded(t, s)
	kept := bytes.Clone(b)
	first, second := encoded(t, s), encoded(t, s)
	clear(first[:cap(first)])
	if !bytes.Equal(second, kept) || !bytes.Equal(encoded(t, s), kept) {
		t.Error("Encode's answers share")
	}
	spoil(s)
	if !bytes.Equal(b, kept) {
		t.Error("Encode's answer and the scene share")
	}
	one, _ := Decode(b)
	two, _ := Decode(b)
	clear(b)
	spoil(one)
	if !same(two, sample()) {
		t.Error("Decode's answers share")
	}
	j := joined(t, sample(), sample(), sample())
	clear(joined(t, sample(), sample(), sample()))
	l, _ := Split(j)
	m, _ := Split(j)
	clear(j)
	spoil(l[1])
	if !same(l[0], sample()) || !same(l[2], sample()) || !reflect.DeepEqual(deepFilm(m), []api.Scene{sample(), sample(), sample()}) {
		t.Error("Split's answers share")
	}
}

// P7.4: no two lists of one answer share any memory, behind their ends neither.
func TestListsApart(t *testing.T) {
	s, _ := Decode(encoded(t, sample()))
	for k := range s.Objects {
		o := s.Objects[k]
		_ = append(o.Verts, [3]int64{9, 9, 9})
		_ = append(o.Tris, api.Tri{A: 9})
	}
	if !same(s, sample()) {
		t.Error("shared")
	}
}
