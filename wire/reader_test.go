package wire_test

import (
	"bytes"
	"encoding/binary"
	"math"
	"math/rand/v2"
	"slices"
	"testing"

	"minster/api"
	"minster/wire"
)

// P1.3

func TestReaderExample(t *testing.T) {
	r := wire.Read([]byte{0, 1, 7, 9})
	if b := r.Blob(); !bytes.Equal(b, []byte{7}) {
		t.Error(b)
	}
	if r.Left() != 1 || r.Failed() || r.End() != api.ErrBytes {
		t.Error("ahead of the end:", r.Left(), r.Failed(), r.End())
	}
	if n := r.Number(2); n != 0 {
		t.Error(n)
	}
	if !r.Failed() || r.Left() != 0 || r.End() != api.ErrBytes {
		t.Error("behind a failed reading:", r.Failed(), r.Left(), r.End())
	}
}

// A reading, as the tests ask for it: it tells what was read as bytes, none
// where that is nothing.
type reading struct {
	name string
	from []byte // just what it takes
	read func(r *wire.Reader) []byte
}

func numberOf(size int) func(r *wire.Reader) []byte {
	return func(r *wire.Reader) []byte {
		n := r.Number(size)
		if n == 0 {
			return nil
		}
		return binary.BigEndian.AppendUint64(nil, n)[8-size:]
	}
}

func blobOf(r *wire.Reader) []byte {
	b := r.Blob()
	if len(b) == 0 {
		return nil
	}
	return append([]byte{byte(len(b) >> 8), byte(len(b))}, b...)
}

func dotOf(r *wire.Reader) []byte {
	d := r.Dot()
	if d == (api.Dot{}) {
		return nil
	}
	return binary.BigEndian.AppendUint64([]byte{byte(d.Region)}, d.Count)
}

func vectorOf(r *wire.Reader) []byte {
	v := r.Vector()
	if v == (api.Vector{}) {
		return nil
	}
	var b []byte
	for _, n := range v {
		b = binary.BigEndian.AppendUint64(b, n)
	}
	return b
}

func bytesOf(n int) func(r *wire.Reader) []byte {
	return func(r *wire.Reader) []byte { return r.Bytes(n) }
}

func readings() []reading {
	return []reading{
		{"Number(1)", counting(1), numberOf(1)},
		{"Number(2)", counting(2), numberOf(2)},
		{"Number(3)", counting(3), numberOf(3)},
		{"Number(7)", counting(7), numberOf(7)},
		{"Number(8)", bytes.Repeat([]byte{255}, 8), numberOf(8)},
		{"Blob of 1", []byte{0, 1, 9}, blobOf},
		{"Blob of 258", append([]byte{1, 2}, counting(258)...), blobOf},
		{"Blob of 65535", append([]byte{255, 255}, counting(65535)...), blobOf},
		{"Dot", []byte{255, 1, 2, 3, 4, 5, 6, 7, 8}, dotOf},
		{"Dot of region 0", []byte{0, 1, 2, 3, 4, 5, 6, 7, 8}, dotOf},
		{"Vector", counting(128), vectorOf},
		{"Bytes(1)", counting(1), bytesOf(1)},
		{"Bytes(300)", counting(300), bytesOf(300)},
	}
}

func TestReadingsTakeWhatTheySay(t *testing.T) {
	for _, x := range readings() {
		r := wire.Read(x.from)
		if got := x.read(r); !bytes.Equal(got, x.from) || r.Failed() || r.Left() != 0 || r.End() != api.OK {
			t.Errorf("%s, just there: %v", x.name, got)
		}
		r = wire.Read(append(slices.Clone(x.from), 77, 78))
		if got := x.read(r); !bytes.Equal(got, x.from) || r.Failed() || r.Left() != 2 || r.End() != api.ErrBytes {
			t.Errorf("%s, with two behind it: %v", x.name, got)
		}
		if n := r.Number(2); n != 77<<8+78 || r.End() != api.OK {
			t.Errorf("%s: what is behind it is %v", x.name, n)
		}
	}
}

func TestReadingsFailWhereTooFewAreLeft(t *testing.T) {
	for _, x := range readings() {
		for _, n := range []int{len(x.from) - 1, len(x.from) / 2, 1, 0} {
			if n >= len(x.from) {
				continue
			}
			r := wire.Read(x.from[:n])
			if got := x.read(r); len(got) != 0 {
				t.Errorf("%s of %d bytes: %v", x.name, n, got)
			}
			wantFailed(t, x.name, r)
		}
	}
}

func TestReaderAtItsEnd(t *testing.T) {
	for _, b := range [][]byte{nil, {}} {
		r := wire.Read(b)
		if r.Failed() || r.Left() != 0 || r.End() != api.OK {
			t.Error("of no bytes:", r.Failed(), r.Left(), r.End())
		}
		if got := r.Bytes(0); len(got) != 0 || r.Failed() || r.End() != api.OK {
			t.Error("no bytes are there at the end")
		}
		if r.Number(1) != 0 {
			t.Error("a number behind the end")
		}
		wantFailed(t, "behind the end", r)
	}
	r := wire.Read([]byte{0, 0, 5})
	if b := r.Blob(); len(b) != 0 || r.Failed() || r.Left() != 1 {
		t.Error("a blob of no bytes:", b, r.Failed(), r.Left())
	}
}

// wantFailed: all readings are nothing, and it stays so.
func wantFailed(t *testing.T, what string, r *wire.Reader) {
	t.Helper()
	for range 2 {
		if !r.Failed() || r.Left() != 0 || r.End() != api.ErrBytes {
			t.Errorf("%s: has not failed: %v %v %v", what, r.Failed(), r.Left(), r.End())
		}
		wantNothing(t, what, r)
	}
}

func wantNothing(t *testing.T, what string, r *wire.Reader) {
	t.Helper()
	for _, size := range []int{0, 1, 2, 8, 9, -1, math.MinInt, math.MaxInt} {
		if n, b := r.Number(size), r.Bytes(size); n != 0 || len(b) != 0 {
			t.Errorf("%s: %d: %v %v", what, size, n, b)
		}
	}
	if b, d, v := r.Blob(), r.Dot(), r.Vector(); len(b) != 0 || d != (api.Dot{}) || v != (api.Vector{}) {
		t.Errorf("%s: %v %v %v", what, b, d, v)
	}
}

func TestSizesThatAreNone(t *testing.T) {
	for _, size := range []int{0, 9, 10, 64, -1, -8, math.MinInt, math.MaxInt} {
		r := wire.Read(counting(100))
		if n := r.Number(size); n != 0 {
			t.Error(size, n)
		}
		wantFailed(t, "Number", r)
	}
	for _, n := range []int{-1, -100, 101, math.MinInt, math.MaxInt} {
		r := wire.Read(counting(100))
		if b := r.Bytes(n); len(b) != 0 {
			t.Error(n, b)
		}
		wantFailed(t, "Bytes", r)
	}
}

func TestNilAndZeroReaders(t *testing.T) {
	for name, r := range map[string]*wire.Reader{"nil": nil, "zero": {}, "new": new(wire.Reader)} {
		for range 2 {
			if !r.Failed() || r.Left() != 0 || r.End() != api.ErrNil {
				t.Error(name, r.Failed(), r.Left(), r.End())
			}
			wantNothing(t, name, r)
		}
	}
}

func TestReaderHasACopy(t *testing.T) {
	b := counting(12)
	r := wire.Read(b)
	clear(b)
	if got := r.Bytes(4); !bytes.Equal(got, counting(4)) {
		t.Error(got)
	}
	b = counting(12)
	r = wire.Read(b)
	for i := range b {
		got := r.Bytes(1)
		got[0] = 99
		if !bytes.Equal(b, counting(12)) {
			t.Fatal("what was handed in changed at", i)
		}
	}
}

func TestAppendingDoesNotReachTheRest(t *testing.T) {
	r := wire.Read([]byte{0, 1, 7, 8, 9, 10})
	blob := r.Blob()
	part := r.Bytes(1)
	none := r.Bytes(0)
	_ = append(blob, 66, 67)
	_ = append(part, 68, 69)
	_ = append(none, 70)
	blob[0] = 71
	if part[0] != 8 {
		t.Error("two answers share", part)
	}
	if n := r.Number(2); n != 9<<8+10 {
		t.Error("the rest changed:", n)
	}
}

func TestReadersGoOnApart(t *testing.T) {
	b := counting(4)
	one, two := wire.Read(b), wire.Read(b)
	one.Bytes(5)
	if two.Failed() || two.Number(4) != 0x01020304 || two.End() != api.OK || one.End() != api.ErrBytes {
		t.Error("one reader moves the other")
	}
}

// P1.4

func TestWhatIsPutIsRead(t *testing.T) {
	g := rand.New(rand.NewPCG(1, 2))
	for range 300 {
		var all []byte
		var checks []func(r *wire.Reader) bool
		for range g.IntN(12) {
			b, check := something(g)
			all = wire.Join(all, b)
			checks = append(checks, check)
		}
		r := wire.Read(all)
		for i, check := range checks {
			if !check(r) || r.Failed() {
				t.Fatal(i, "was read as another thing")
			}
		}
		if r.End() != api.OK {
			t.Fatal(r.End(), r.Left())
		}
	}
}

// something is some thing's bytes, and whether just that is read next.
func something(g *rand.Rand) ([]byte, func(r *wire.Reader) bool) {
	switch g.IntN(5) {
	case 0:
		size := 1 + g.IntN(8)
		n := g.Uint64() >> (64 - 8*size)
		b, _ := wire.Put(n, size)
		return b, func(r *wire.Reader) bool { return r.Number(size) == n }
	case 1:
		blob := counting(g.IntN(600))
		b, _ := wire.Blob(blob)
		return b, func(r *wire.Reader) bool { return bytes.Equal(r.Blob(), blob) }
	case 2:
		d := api.Dot{Region: g.IntN(256), Count: g.Uint64()}
		b, _ := wire.Dot(d)
		return b, func(r *wire.Reader) bool { return r.Dot() == d }
	case 3:
		var v api.Vector
		for i := range v {
			v[i] = g.Uint64() >> g.IntN(64)
		}
		return wire.Vector(v), func(r *wire.Reader) bool { return r.Vector() == v }
	}
	b := counting(g.IntN(20))
	return b, func(r *wire.Reader) bool { return bytes.Equal(r.Bytes(len(b)), b) }
}

func TestBlobOfTheGreatestSizeIsRead(t *testing.T) {
	for _, n := range []int{0, 1, 65535} {
		b, _ := wire.Blob(counting(n))
		r := wire.Read(b)
		if got := r.Blob(); !bytes.Equal(got, counting(n)) || r.End() != api.OK {
			t.Error(n, len(got), r.End())
		}
	}
}

func TestGetOfPut(t *testing.T) {
	for size := 1; size <= 8; size++ {
		for _, n := range []uint64{0, 1, 255, 256, 1 << 31, 1 << 62, math.MaxUint64} {
			b, code := wire.Put(n, size)
			if code != api.OK {
				continue
			}
			if got, code := wire.Get(b); got != n || code != api.OK {
				t.Error(n, size, got, code)
			}
		}
	}
}

// model is a reader of the plainest kind: a place, and whether it failed.
type model struct {
	b      []byte
	at     int
	failed bool
}

func (m *model) take(n int) []byte {
	if m.failed || n < 0 || n > len(m.b)-m.at {
		m.failed = true
		return nil
	}
	m.at += n
	return m.b[m.at-n : m.at]
}

func (m *model) number(size int) uint64 {
	if size < 1 || size > 8 {
		m.failed = true
	}
	part := m.take(size)
	return binary.BigEndian.Uint64(append(make([]byte, 8-len(part)), part...))
}

func (m *model) dot() api.Dot {
	part := m.take(9)
	if part == nil {
		return api.Dot{}
	}
	return api.Dot{Region: int(part[0]), Count: binary.BigEndian.Uint64(part[1:])}
}

func (m *model) vector() api.Vector {
	var v api.Vector
	part := m.take(128)
	for i := range v {
		if part != nil {
			v[i] = binary.BigEndian.Uint64(part[8*i:])
		}
	}
	return v
}

func (m *model) left() int {
	if m.failed {
		return 0
	}
	return len(m.b) - m.at
}

func (m *model) end() api.Errno {
	if m.failed || m.left() > 0 {
		return api.ErrBytes
	}
	return api.OK
}

// alike does one reading with both, and tells whether they agree.
func alike(r *wire.Reader, m *model, kind, n int) bool {
	switch kind {
	case 0:
		return r.Number(n) == m.number(n)
	case 1:
		return bytes.Equal(r.Blob(), m.take(int(m.number(2))))
	case 2:
		return r.Dot() == m.dot()
	case 3:
		return r.Vector() == m.vector()
	}
	return bytes.Equal(r.Bytes(n), m.take(n))
}

func TestReadersDoAsTheModelDoes(t *testing.T) {
	g := rand.New(rand.NewPCG(3, 4))
	for range 5000 {
		b := make([]byte, g.IntN(300))
		for i := range b {
			b[i] = byte(g.IntN(256) >> g.IntN(9)) // noughts are many, so that blobs are short ones
		}
		kept := slices.Clone(b)
		r, m := wire.Read(b), &model{b: kept}
		for range 1 + g.IntN(20) {
			kind, n := g.IntN(5), g.IntN(10)
			if g.IntN(12) == 0 {
				n = -n
			}
			if !alike(r, m, kind, n) || r.Failed() != m.failed || r.Left() != m.left() || r.End() != m.end() {
				t.Fatal(kind, n, kept, m.at)
			}
		}
		if !bytes.Equal(b, kept) {
			t.Fatal("what was handed in changed")
		}
	}
}
