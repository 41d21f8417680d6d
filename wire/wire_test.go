package wire_test

import (
	"bytes"
	"encoding/binary"
	"encoding/hex"
	"math"
	"slices"
	"strings"
	"testing"

	"minster/api"
	"minster/wire"
)

// wantBytes holds an answer of bytes against what it should be; beside an
// error there are none.
func wantBytes(t *testing.T, what any, got []byte, code api.Errno, want []byte, wantCode api.Errno) {
	t.Helper()
	if code != wantCode || !bytes.Equal(got, want) {
		t.Errorf("%#v: %v, %v; want %v, %v", what, got, code, want, wantCode)
	}
}

// counting is n bytes, no two neighbours alike.
func counting(n int) []byte {
	b := make([]byte, n)
	for i := range b {
		b[i] = byte(i + 1)
	}
	return b
}

// P1.1

func TestPut(t *testing.T) {
	for _, x := range []struct {
		n    uint64
		size int
		want []byte
	}{
		{0, 1, []byte{0}},
		{255, 1, []byte{255}},
		{258, 2, []byte{1, 2}},
		{258, 4, []byte{0, 0, 1, 2}},
		{0, 8, []byte{0, 0, 0, 0, 0, 0, 0, 0}},
		{0x0102030405060708, 8, []byte{1, 2, 3, 4, 5, 6, 7, 8}},
		{math.MaxUint64, 8, []byte{255, 255, 255, 255, 255, 255, 255, 255}},
	} {
		got, code := wire.Put(x.n, x.size)
		wantBytes(t, x, got, code, x.want, api.OK)
	}
}

func TestPutRefusesSizes(t *testing.T) {
	for _, size := range []int{0, 9, 16, 64, -1, -8, math.MinInt, math.MaxInt} {
		for _, n := range []uint64{0, 1, math.MaxUint64} {
			got, code := wire.Put(n, size)
			wantBytes(t, size, got, code, nil, api.ErrArg)
		}
	}
}

func TestPutRoom(t *testing.T) {
	for size := 1; size <= 8; size++ {
		most := uint64(math.MaxUint64) >> (64 - 8*size)
		got, code := wire.Put(most, size)
		wantBytes(t, size, got, code, bytes.Repeat([]byte{255}, size), api.OK)
		if size == 8 {
			continue
		}
		for _, n := range []uint64{most + 1, most + 256, 1 << 63, math.MaxUint64} {
			got, code = wire.Put(n, size)
			wantBytes(t, n, got, code, nil, api.ErrArg)
		}
	}
}

func TestGet(t *testing.T) {
	for _, x := range []struct {
		b    []byte
		want uint64
		code api.Errno
	}{
		{nil, 0, api.ErrArg},
		{[]byte{}, 0, api.ErrArg},
		{[]byte{0}, 0, api.OK},
		{[]byte{255}, 255, api.OK},
		{[]byte{1, 2}, 258, api.OK},
		{[]byte{1, 2, 3}, 66051, api.OK},
		{[]byte{0, 0, 0, 0, 0, 0, 0, 7}, 7, api.OK},
		{[]byte{1, 2, 3, 4, 5, 6, 7, 8}, 0x0102030405060708, api.OK},
		{bytes.Repeat([]byte{255}, 8), math.MaxUint64, api.OK},
		{make([]byte, 9), 0, api.ErrArg},
		{counting(9), 0, api.ErrArg},
		{counting(1000), 0, api.ErrArg},
	} {
		if n, code := wire.Get(x.b); n != x.want || code != x.code {
			t.Errorf("%v: %v, %v", x, n, code)
		}
	}
}

func TestBlob(t *testing.T) {
	for _, n := range []int{0, 1, 2, 255, 256, 65534, 65535} {
		want := append([]byte{byte(n >> 8), byte(n)}, counting(n)...)
		got, code := wire.Blob(counting(n))
		wantBytes(t, n, got, code, want, api.OK)
	}
	got, code := wire.Blob(nil)
	wantBytes(t, "nil", got, code, []byte{0, 0}, api.OK)
	for _, n := range []int{65536, 65537, 1 << 17} {
		got, code = wire.Blob(counting(n))
		wantBytes(t, n, got, code, nil, api.ErrLong)
	}
}

func TestDot(t *testing.T) {
	for _, x := range []struct {
		dot  api.Dot
		want []byte
	}{
		{api.Dot{}, make([]byte, 9)},
		{api.Dot{Region: 2, Count: 5}, []byte{2, 0, 0, 0, 0, 0, 0, 0, 5}},
		{api.Dot{Region: 255, Count: 0x0102030405060708}, []byte{255, 1, 2, 3, 4, 5, 6, 7, 8}},
		{api.Dot{Region: 0, Count: math.MaxUint64}, []byte{0, 255, 255, 255, 255, 255, 255, 255, 255}},
	} {
		got, code := wire.Dot(x.dot)
		wantBytes(t, x.dot, got, code, x.want, api.OK)
	}
	for _, region := range []int{-1, 256, 257, -256, 512, math.MinInt, math.MaxInt} {
		got, code := wire.Dot(api.Dot{Region: region, Count: 1})
		wantBytes(t, region, got, code, nil, api.ErrArg)
	}
}

func TestVector(t *testing.T) {
	if b := wire.Vector(api.Vector{}); !bytes.Equal(b, make([]byte, 128)) {
		t.Error(b)
	}
	var v api.Vector
	var want []byte
	for i := range v {
		v[i] = math.MaxUint64 - uint64(i)<<(4*i)
		want = binary.BigEndian.AppendUint64(want, v[i])
	}
	if b := wire.Vector(v); !bytes.Equal(b, want) {
		t.Error(b)
	}
}

// P1.2

func TestJoin(t *testing.T) {
	for _, x := range []struct {
		l    [][]byte
		want string
	}{
		{nil, ""},
		{[][]byte{nil}, ""},
		{[][]byte{nil, {}, nil}, ""},
		{[][]byte{[]byte("ab")}, "ab"},
		{[][]byte{[]byte("ab"), nil, []byte("c"), []byte("ab")}, "abcab"},
	} {
		if got := wire.Join(x.l...); string(got) != x.want {
			t.Errorf("%q: %q", x.l, got)
		}
	}
}

func TestHex(t *testing.T) {
	if s := wire.Hex(nil) + wire.Hex([]byte{}); s != "" {
		t.Error(s)
	}
	if s := wire.Hex([]byte{0, 171, 205, 239, 255, 16}); s != "00abcdefff10" {
		t.Error(s)
	}
	var all []byte
	for c := range 256 {
		all = append(all, byte(c))
	}
	if s := wire.Hex(all); s != hex.EncodeToString(all) {
		t.Error(s)
	}
}

func TestUnhex(t *testing.T) {
	got, code := wire.Unhex("")
	wantBytes(t, "none", got, code, nil, api.OK)
	got, code = wire.Unhex("00abcdefff10")
	wantBytes(t, "some", got, code, []byte{0, 171, 205, 239, 255, 16}, api.OK)
	for c := range 256 {
		got, code = wire.Unhex(wire.Hex([]byte{byte(c), 7}))
		wantBytes(t, c, got, code, []byte{byte(c), 7}, api.OK)
	}
}

func TestUnhexRefuses(t *testing.T) {
	for _, s := range []string{
		"0", "a", "000", "abc", "0A", "A0", "0g", "g0", " 0", "0 ", "0x", "0x00", "-1", "+1", "00 ", " 00",
		"00\n", "00\x00", "0\x00", "é", "½½", "00é", "\xff\xff", "abcdefgh", "0011223344556z", "z011223344",
	} {
		got, code := wire.Unhex(s)
		wantBytes(t, s, got, code, nil, api.ErrBytes)
	}
}

func TestUnhexTakesTheDigitsAlone(t *testing.T) {
	for c := range 256 {
		want := api.ErrBytes
		if strings.IndexByte("0123456789abcdef", byte(c)) >= 0 {
			want = api.OK
		}
		one := string([]byte{byte(c)})
		for _, s := range []string{"0" + one, one + "0", "ab0" + one + "cd", "ab" + one + "0cd"} {
			if _, code := wire.Unhex(s); code != want {
				t.Errorf("%q: %v", s, code)
			}
		}
	}
}

// What is handed in is not changed; what is answered is new memory.

func TestAnswersAreNewMemory(t *testing.T) {
	roomy := append(make([]byte, 0, 64), 'a', 'b')
	kept := slices.Clone(roomy[:cap(roomy)])
	blob, _ := wire.Blob(roomy)
	one := wire.Join(roomy)
	two := wire.Join(roomy, []byte("cd"))
	read := wire.Read(roomy).Bytes(2)
	wire.Get(roomy)
	wire.Hex(roomy)
	for _, b := range [][]byte{blob, one, two, read} {
		for i := range b {
			b[i] = 'z'
		}
		_ = append(b, 'z')
	}
	if !bytes.Equal(roomy[:cap(roomy)], kept) {
		t.Error("what was handed in changed:", roomy[:cap(roomy)])
	}
	lists := [][]byte{roomy, nil, []byte("cd")}
	wire.Join(lists...)
	if !bytes.Equal(lists[0], []byte("ab")) || lists[1] != nil || !bytes.Equal(lists[2], []byte("cd")) {
		t.Error("the lists changed:", lists)
	}
}

func TestAnswersShareNothing(t *testing.T) {
	dot := api.Dot{Region: 7, Count: 8}
	for name, ask := range map[string]func() []byte{
		"Put":    func() []byte { b, _ := wire.Put(258, 2); return b },
		"Blob":   func() []byte { b, _ := wire.Blob([]byte("ab")); return b },
		"Dot":    func() []byte { b, _ := wire.Dot(dot); return b },
		"Vector": func() []byte { return wire.Vector(api.Vector{1, 2}) },
		"Join":   func() []byte { return wire.Join([]byte("a"), []byte("b")) },
		"Unhex":  func() []byte { b, _ := wire.Unhex("abcd"); return b },
	} {
		first, second := ask(), ask()
		kept := slices.Clone(second)
		for i := range first {
			first[i] ^= 255
		}
		if !bytes.Equal(second, kept) || !bytes.Equal(ask(), kept) {
			t.Error(name)
		}
	}
}
