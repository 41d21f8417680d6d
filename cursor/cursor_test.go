package cursor_test

import (
	"bytes"
	"crypto/hmac"
	"crypto/sha256"
	"encoding/binary"
	"encoding/hex"
	"fmt"
	"math"
	"math/rand/v2"
	"slices"
	"strings"
	"testing"

	"minster/api"
	"minster/cursor"
)

const maxCount = 1 << 62

// byWords are a cursor's bytes just as the chapter says them, with the
// library's code, also where device and vector may not be.
func byWords(secret []byte, device string, v api.Vector) []byte {
	var vector []byte
	for _, n := range v {
		vector = binary.BigEndian.AppendUint64(vector, n)
	}
	m := hmac.New(sha256.New, secret)
	m.Write(binary.BigEndian.AppendUint16(nil, uint16(len(device))))
	m.Write([]byte(device))
	m.Write(vector)
	return m.Sum(vector)
}

// codedBy is the vector's bytes with the code of another message.
func codedBy(secret []byte, v api.Vector, message ...[]byte) []byte {
	m := hmac.New(sha256.New, secret)
	m.Write(slices.Concat(message...))
	return m.Sum(byWords(secret, "a", v)[:128:128])
}

func random(g *rand.Rand, n int) []byte {
	b := make([]byte, n)
	for i := range b {
		b[i] = byte(g.Uint32())
	}
	return b
}

// numbers is a vector that may be.
func numbers(g *rand.Rand) api.Vector {
	var v api.Vector
	for i := range v {
		v[i] = g.Uint64N(maxCount+1) >> g.IntN(63)
	}
	return v
}

func all(n uint64) api.Vector {
	var v api.Vector
	for i := range v {
		v[i] = n
	}
	return v
}

func secrets() [][]byte {
	g := rand.New(rand.NewPCG(10, 1))
	l := [][]byte{nil, {}, {1}, []byte("key")}
	for _, n := range []int{2, 63, 64, 65, 200} {
		l = append(l, random(g, n))
	}
	return l
}

func devices() []string {
	return []string{"a", "b", "ab", "\x00", "a\x00", "é", "\xff\xfe", " ", strings.Repeat("d", 31), strings.Repeat("d", 32)}
}

// none are devices that may not be.
func none() []string {
	return []string{"", strings.Repeat("d", 33), strings.Repeat("é", 17), strings.Repeat("d", 65535), strings.Repeat("d", 65536), strings.Repeat("d", 1<<20)}
}

func vectors() []api.Vector {
	g := rand.New(rand.NewPCG(10, 2))
	l := []api.Vector{{}, {1}, {15: 1}, {7, 4, 258}, {maxCount}, {15: maxCount}, all(1), all(maxCount)}
	for range 10 {
		l = append(l, numbers(g))
	}
	return l
}

// tooGreat are vectors of which one number is more than may be.
func tooGreat() []api.Vector {
	l := []api.Vector{all(maxCount + 1), all(math.MaxUint64)}
	for i := range api.MaxRegions {
		for _, n := range []uint64{maxCount + 1, 1 << 63, math.MaxUint64} {
			for _, v := range []api.Vector{{}, all(maxCount)} {
				v[i] = n
				l = append(l, v)
			}
		}
	}
	return l
}

func made(t *testing.T, secret []byte, device string, v api.Vector) []byte {
	t.Helper()
	b, code := cursor.Bytes(secret, device, v)
	if code != api.OK {
		t.Fatalf("%q: %v %v", device, v, code)
	}
	return b
}

func wantVector(t *testing.T, what string, secret []byte, device string, b []byte, want api.Vector) {
	t.Helper()
	if v, code := cursor.Of(secret, device, b); v != want || code != api.OK {
		t.Errorf("%q: %v %v", what, v, code)
	}
}

func wantRefused(t *testing.T, what string, secret []byte, device string, b []byte) {
	t.Helper()
	if v, code := cursor.Of(secret, device, b); v != (api.Vector{}) || code != api.ErrCursor {
		t.Errorf("%q: %v %v", what, v, code)
	}
}

// The chapter's examples.
func TestExamples(t *testing.T) {
	s, v := []byte("secret"), api.Vector{3, 0, 5}
	b := made(t, s, "a", v)
	wantVector(t, "of a", s, "a", b, v)
	wantRefused(t, "of b", s, "b", b)
	wantVector(t, "of none", s, "a", nil, api.Vector{})
	wantRefused(t, "of 159 bytes", s, "a", b[:159])
	if b, code := cursor.Bytes(s, "", v); len(b) != 0 || code != api.ErrArg {
		t.Error(b, code)
	}
}

// P10.1

// Codes that were reckoned by another program.
func TestKnownCursors(t *testing.T) {
	hundred := make([]byte, 100)
	for i := range hundred {
		hundred[i] = byte(i)
	}
	for _, x := range []struct {
		secret []byte
		device string
		v      api.Vector
		code   string
	}{
		{[]byte("key"), "phone", api.Vector{7, 4, 258}, "15c4d79761a125298eee84fa4aea2d6e203db7d73d3eaa65759f5bc5a8400e71"},
		{nil, "a", api.Vector{}, "e40ed02645d7fed5d50ca7bd9f30a0b8c8d6963ce31033246536e58938f53f89"},
		{hundred, strings.Repeat("d", 32), all(maxCount), "fd786436262d703f6858bec00fbc6df0c48dfc46c5ad826b1e2c9855a2958f08"},
	} {
		b := made(t, x.secret, x.device, x.v)
		if got := hex.EncodeToString(b[128:]); got != x.code {
			t.Error(x.device, got)
		}
	}
	b := made(t, []byte("key"), "phone", api.Vector{7, 4, 258, 15: maxCount})
	want := make([]byte, 128)
	want[7], want[15], want[22], want[23], want[120] = 7, 4, 1, 2, 64
	if !bytes.Equal(b[:128], want) {
		t.Error(b[:128])
	}
}

func TestBytesByTheWords(t *testing.T) {
	for _, secret := range secrets() {
		for _, device := range devices() {
			for _, v := range vectors() {
				b, code := cursor.Bytes(secret, device, v)
				if code != api.OK || len(b) != 160 || !bytes.Equal(b, byWords(secret, device, v)) {
					t.Fatalf("%v %q %v: %v %v", secret, device, v, b, code)
				}
			}
		}
	}
}

func TestBytesOfWhatMayNotBe(t *testing.T) {
	refused := func(device string, v api.Vector) {
		t.Helper()
		for _, secret := range [][]byte{nil, []byte("key")} {
			if b, code := cursor.Bytes(secret, device, v); len(b) != 0 || code != api.ErrArg {
				t.Error(len(device), v, b, code)
			}
		}
	}
	for _, device := range none() {
		refused(device, api.Vector{})
		refused(device, all(maxCount+1))
	}
	for _, v := range tooGreat() {
		refused("a", v)
	}
}

func TestOfByTheWords(t *testing.T) {
	for _, secret := range secrets() {
		for _, device := range devices() {
			for _, v := range vectors() {
				wantVector(t, device, secret, device, byWords(secret, device, v), v)
			}
		}
	}
}

func TestOfNoBytes(t *testing.T) {
	for _, secret := range secrets() {
		for _, device := range devices() {
			wantVector(t, "nil", secret, device, nil, api.Vector{})
			wantVector(t, "empty", secret, device, []byte{}, api.Vector{})
			wantVector(t, "none of many", secret, device, byWords(secret, device, all(1))[:0], api.Vector{})
		}
	}
}

// The device is asked ahead of the bytes, whatever these are.
func TestOfADeviceThatMayNotBe(t *testing.T) {
	s := []byte("key")
	for _, device := range none() {
		for _, b := range [][]byte{nil, {}, {1}, make([]byte, 160), byWords(s, device, api.Vector{1}), byWords(s, "a", api.Vector{1})} {
			if v, code := cursor.Of(s, device, b); v != (api.Vector{}) || code != api.ErrArg {
				t.Error(len(device), len(b), v, code)
			}
		}
	}
}

func TestOfOtherLengths(t *testing.T) {
	s := []byte("key")
	for _, v := range []api.Vector{{}, {3, 0, 5}, all(maxCount)} {
		b := byWords(s, "a", v)
		for n := 1; n < len(b); n++ {
			wantRefused(t, fmt.Sprint("the first ", n), s, "a", b[:n])
			wantRefused(t, fmt.Sprint("without the first ", n), s, "a", b[n:])
		}
		for _, n := range []int{1, 8, 32, 96, 128, 160, 1 << 16} {
			wantRefused(t, fmt.Sprint(n, " noughts behind it"), s, "a", append(slices.Clip(b), make([]byte, n)...))
			wantRefused(t, fmt.Sprint(n, " noughts ahead of it"), s, "a", append(make([]byte, n), b...))
		}
		wantRefused(t, "twice", s, "a", slices.Concat(b, b))
	}
	for n := 1; n <= 400; n++ {
		wantRefused(t, fmt.Sprint(n, " noughts"), s, "a", make([]byte, n))
		wantRefused(t, fmt.Sprint(n, " of 255"), s, "a", bytes.Repeat([]byte{255}, n))
	}
}

// The code is right, but no vector that may be has these bytes.
func TestOfAVectorThatMayNotBe(t *testing.T) {
	for _, secret := range secrets() {
		for _, v := range tooGreat() {
			wantRefused(t, "too great", secret, "a", byWords(secret, "a", v))
		}
	}
}

// Codes of what is near to what the code is of.
func TestOfOtherCodes(t *testing.T) {
	s, v := []byte("key"), api.Vector{3, 0, 5}
	vector := byWords(s, "a", v)[:128]
	blob := []byte{0, 1, 'a'}
	wantVector(t, "the code itself", s, "a", codedBy(s, v, blob, vector), v)
	h := sha256.Sum256(slices.Concat(s, blob, vector))
	for what, b := range map[string][]byte{
		"of nothing":              codedBy(s, v),
		"of the vector alone":     codedBy(s, v, vector),
		"of the device alone":     codedBy(s, v, blob),
		"of the bare name":        codedBy(s, v, []byte("a"), vector),
		"of a byte and the name":  codedBy(s, v, []byte{1, 'a'}, vector),
		"the device behind":       codedBy(s, v, vector, blob),
		"of one byte more":        codedBy(s, v, blob, vector, []byte{0}),
		"of a code":               codedBy(s, v, byWords(s, "a", v)[128:]),
		"a hash, not a code":      append(slices.Clip(vector), h[:]...),
		"noughts":                 append(slices.Clip(vector), make([]byte, 32)...),
		"the code ahead":          slices.Concat(byWords(s, "a", v)[128:], vector),
		"of another vector":       slices.Concat(vector, byWords(s, "a", api.Vector{3, 0, 6})[128:]),
		"of the vector of none":   slices.Concat(vector, byWords(s, "a", api.Vector{})[128:]),
		"another one with this":   slices.Concat(byWords(s, "a", api.Vector{4, 0, 5})[:128], byWords(s, "a", v)[128:]),
		"noughts with this":       slices.Concat(make([]byte, 128), byWords(s, "a", v)[128:]),
		"regions the other way":   slices.Concat(byWords(s, "a", api.Vector{5, 0, 3})[:128], byWords(s, "a", v)[128:]),
		"the text of half a code": append(slices.Clip(vector), hex.EncodeToString(byWords(s, "a", v)[128:144])...),
	} {
		wantRefused(t, what, s, "a", b)
	}
}

// P10.3

func TestOfOfBytes(t *testing.T) {
	g := rand.New(rand.NewPCG(10, 3))
	for range 3000 {
		secret, device, v := random(g, g.IntN(100)), string(random(g, 1+g.IntN(32))), numbers(g)
		b := made(t, secret, device, v)
		wantVector(t, device, secret, device, b, v)
		if again := made(t, secret, device, v); !bytes.Equal(again, b) {
			t.Fatalf("%v %q %v", secret, device, v)
		}
	}
}

func TestEachOtherByteIsRefused(t *testing.T) {
	s := []byte("key")
	b := made(t, s, "a", api.Vector{3, 0, 5, 9: 1 << 40})
	for i := range b {
		for c := range 256 {
			if byte(c) == b[i] {
				continue
			}
			other := slices.Clone(b)
			other[i] = byte(c)
			wantRefused(t, fmt.Sprint(i, c), s, "a", other)
		}
	}
}

func TestBytesThatChangedAreRefused(t *testing.T) {
	g := rand.New(rand.NewPCG(10, 4))
	for range 5000 {
		secret, device := random(g, g.IntN(80)), string(random(g, 1+g.IntN(32)))
		b := made(t, secret, device, numbers(g))
		other := slices.Clone(b)
		for range 1 + g.IntN(5) {
			switch i, j := g.IntN(160), g.IntN(160); g.IntN(3) {
			case 0:
				other[i] ^= 1 << g.IntN(8)
			case 1:
				other[i], other[j] = other[j], other[i]
			default:
				other[i]++
				other[j]--
			}
		}
		if !bytes.Equal(other, b) {
			wantRefused(t, "changed", secret, device, other)
		}
	}
}

func TestOfAnotherDevice(t *testing.T) {
	s, v := []byte("key"), api.Vector{3, 0, 5}
	all := append(devices(), "A", "a ", " a", "a\x00\x00", "\x00a", "\x00\x01a", "d", strings.Repeat("d", 30), strings.Repeat("d", 31)+"e")
	for i, a := range all {
		b := made(t, s, a, v)
		for j, device := range all {
			if i == j {
				wantVector(t, device, s, device, b, v)
			} else {
				wantRefused(t, fmt.Sprintf("%q of %q", device, a), s, device, b)
			}
		}
	}
}

// A device's last bytes can't be taken for the vector's first ones.
func TestNamesAndVectorsAreToldApart(t *testing.T) {
	s := []byte("key")
	long := made(t, s, "a\x00\x00\x00\x00\x00\x00\x00\x00", api.Vector{})
	short := made(t, s, "a", api.Vector{})
	if bytes.Equal(long, short) {
		t.Error("two devices have one cursor")
	}
	wantRefused(t, "the longer name's", s, "a", long)
	wantRefused(t, "the shorter name's", s, "a\x00\x00\x00\x00\x00\x00\x00\x00", short)
}

func TestOfAnotherSecret(t *testing.T) {
	v := api.Vector{3, 0, 5}
	g := rand.New(rand.NewPCG(10, 5))
	long := random(g, 100)
	l := [][]byte{{}, {1}, {0, 1}, {1, 1}, []byte("key"), []byte("kez"), []byte("Key"), []byte("ke"), []byte("keykey"),
		long[:63], long[:64], long[:65], long[:99], long}
	for i, a := range l {
		b := made(t, a, "a", v)
		for j, secret := range l {
			if i == j {
				wantVector(t, "its own", secret, "a", b, v)
			} else {
				wantRefused(t, fmt.Sprint(i, j), secret, "a", b)
			}
		}
	}
}

func TestEachBitOfTheSecretCounts(t *testing.T) {
	g := rand.New(rand.NewPCG(10, 6))
	for _, n := range []int{1, 32, 64, 65, 130} {
		secret := random(g, n)
		b := made(t, secret, "a", api.Vector{9})
		for i := range 8 * n {
			other := slices.Clone(secret)
			other[i/8] ^= 1 << (i % 8)
			wantRefused(t, fmt.Sprint(n, i), other, "a", b)
		}
	}
}

// Two secrets that layer 3 takes for one make the same cursors.
func TestSecretsThatAreTakenForOne(t *testing.T) {
	v := api.Vector{3, 0, 5}
	long := random(rand.New(rand.NewPCG(10, 7)), 65)
	h := sha256.Sum256(long)
	for _, x := range [][2][]byte{{nil, {}}, {nil, make([]byte, 64)}, {[]byte("key"), []byte("key\x00")}, {long, h[:]}} {
		if !bytes.Equal(made(t, x[0], "a", v), made(t, x[1], "a", v)) {
			t.Error(x)
		}
		wantVector(t, "the other one's", x[1], "a", made(t, x[0], "a", v), v)
	}
}

// What is answered is new, and what is handed in stays as it was, its spare
// room too.
func TestNothingIsSharedOrChanged(t *testing.T) {
	secret, v := []byte("secret and spare room")[:6], api.Vector{3, 0, 5}
	b := made(t, secret, "a", v)
	other := made(t, secret, "a", v)
	for i := range other {
		other[i]++
	}
	_ = append(other, 1, 2, 3)
	if !bytes.Equal(b, byWords([]byte("secret"), "a", v)) {
		t.Error("two answers share")
	}
	roomy := append(make([]byte, 0, 300), b...)
	rest := roomy[160:300]
	for i := range rest {
		rest[i] = byte(i)
	}
	kept := slices.Clone(roomy[:300])
	for _, of := range []func() (api.Vector, api.Errno){
		func() (api.Vector, api.Errno) { return cursor.Of(secret, "a", roomy) },
		func() (api.Vector, api.Errno) { return cursor.Of(secret, "b", roomy) },
		func() (api.Vector, api.Errno) { return cursor.Of(secret, "", roomy) },
		func() (api.Vector, api.Errno) { return cursor.Of(secret, "a", roomy[:159]) },
		func() (api.Vector, api.Errno) { return cursor.Of(secret, "a", roomy[:0]) },
		func() (api.Vector, api.Errno) { return cursor.Of(roomy[:6], "a", roomy) },
	} {
		of()
		if !bytes.Equal(roomy[:300], kept) || string(secret[:21]) != "secret and spare room" || v != (api.Vector{3, 0, 5}) {
			t.Error("what was handed in changed")
		}
	}
	got, _ := cursor.Of(secret, "a", roomy)
	clear(roomy)
	if got != v {
		t.Error("a vector hangs on the bytes", got)
	}
}

// A call that was refused leaves nothing behind.
func TestCallsDoNotHangOnOneAnother(t *testing.T) {
	s, v := []byte("key"), api.Vector{3, 0, 5}
	b := byWords(s, "a", v)
	for range 3 {
		wantRefused(t, "of b", s, "b", b)
		wantRefused(t, "by another secret", nil, "a", b)
		wantVector(t, "of a", s, "a", b, v)
		wantVector(t, "of none", s, "a", nil, api.Vector{})
	}
}
