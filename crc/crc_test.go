package crc_test

import (
	"bytes"
	"encoding/binary"
	"hash/crc32"
	"math/rand/v2"
	"slices"
	"testing"

	"minster/crc"
)

// wordByWord is the sum just as the chapter's words say it: 32 bits, the
// lowest at 0, into which each bit is taken alone.
func wordByWord(b []byte) uint32 {
	const mask = "10000010111101100011101101111000"
	var bits [32]bool
	for i := range bits {
		bits[i] = true
	}
	for i := range 8 * len(b) {
		in := b[i/8]>>(i%8)&1 == 1
		out := bits[0]
		copy(bits[:], bits[1:])
		bits[31] = false
		for j := range bits {
			if out != in {
				bits[j] = bits[j] != (mask[31-j] == '1')
			}
		}
	}
	var sum uint32
	for i, bit := range bits {
		if !bit {
			sum |= 1 << i
		}
	}
	return sum
}

func librarySum(b []byte) uint32 {
	return crc32.Checksum(b, crc32.MakeTable(crc32.Castagnoli))
}

// isClosed is what closed bytes are, told without Open.
func isClosed(b []byte) bool {
	n := len(b) - 4
	return n >= 0 && binary.LittleEndian.Uint32(b[n:]) == librarySum(b[:n])
}

func random(g *rand.Rand, n int) []byte {
	b := make([]byte, n)
	for i := range b {
		b[i] = byte(g.Uint32())
	}
	return b
}

// samples are bytes of many kinds: none, few, many, all alike, and not.
func samples() [][]byte {
	g := rand.New(rand.NewPCG(5, 6))
	all := [][]byte{nil, {}, []byte("123456789"), []byte("minster")}
	for c := range 256 {
		all = append(all, []byte{byte(c)})
	}
	for n := range 70 {
		all = append(all, make([]byte, n), bytes.Repeat([]byte{255}, n), random(g, n))
	}
	return append(all, random(g, 1000), random(g, 65535), make([]byte, 4096))
}

func wantOpened(t *testing.T, closed, want []byte) {
	t.Helper()
	if got, ok := crc.Open(closed); !ok || !bytes.Equal(got, want) {
		t.Errorf("%v is opened as %v, %v; want %v", closed, got, ok, want)
	}
}

func wantRefused(t *testing.T, b []byte) {
	t.Helper()
	if got, ok := crc.Open(b); ok || len(got) != 0 {
		t.Errorf("%v is opened as %v, %v", b, got, ok)
	}
}

// P2.1

func TestSumExamples(t *testing.T) {
	for _, x := range []struct {
		l    [][]byte
		want uint32
	}{
		{nil, 0},
		{[][]byte{nil}, 0},
		{[][]byte{{}, nil, {}}, 0},
		{[][]byte{[]byte("123456789")}, 3808858755},
		{[][]byte{[]byte("1234"), nil, []byte("5678"), {}, []byte("9")}, 3808858755},
		{[][]byte{[]byte("a")}, 3251651376},
		{[][]byte{{0, 0, 0, 0}}, 1214729159},
		{[][]byte{{0}, {0}, {0}, {0}}, 1214729159},
	} {
		if got := crc.Sum(x.l...); got != x.want {
			t.Errorf("%v: %d; want %d", x.l, got, x.want)
		}
	}
	if got := crc.Sum(); got != 0 {
		t.Error("of no lists:", got)
	}
}

// The test values that RFC 3720 gives for CRC-32C.
func TestSumOfThirtyTwoBytes(t *testing.T) {
	up := make([]byte, 32)
	for i := range up {
		up[i] = byte(i)
	}
	down := slices.Clone(up)
	slices.Reverse(down)
	for _, x := range []struct {
		b    []byte
		want uint32
	}{
		{make([]byte, 32), 0x8a9136aa},
		{bytes.Repeat([]byte{255}, 32), 0x62a8ab43},
		{up, 0x46dd794e},
		{down, 0x113fdb5c},
	} {
		if got := crc.Sum(x.b); got != x.want {
			t.Errorf("%v: %x; want %x", x.b, got, x.want)
		}
	}
}

func TestSumIsAsTheWordsSay(t *testing.T) {
	for _, b := range samples() {
		if got := crc.Sum(b); got != wordByWord(b) || got != librarySum(b) {
			t.Errorf("%d bytes: %d; want %d", len(b), got, wordByWord(b))
		}
	}
}

func TestSumGoesOnFromListToList(t *testing.T) {
	g := rand.New(rand.NewPCG(7, 8))
	for range 500 {
		b := random(g, g.IntN(60))
		var l [][]byte
		for rest := b; len(rest) > 0; {
			n := g.IntN(len(rest) + 1)
			l = append(l, rest[:n])
			rest = rest[n:]
		}
		if got := crc.Sum(l...); got != wordByWord(b) {
			t.Fatalf("%v: %d; want %d", l, got, wordByWord(b))
		}
	}
	one, two := []byte("one"), []byte("two")
	if crc.Sum(one, two) == crc.Sum(two, one) || crc.Sum(one, two, one) != crc.Sum([]byte("onetwoone")) {
		t.Error("the order of the lists counts")
	}
}

// P2.2

func TestCloseAndOpenExamples(t *testing.T) {
	if b := crc.Close(); !bytes.Equal(b, []byte{0, 0, 0, 0}) {
		t.Error(b)
	}
	wantOpened(t, []byte{0, 0, 0, 0}, nil)
	wantRefused(t, []byte{0, 0, 0, 1})
}

func TestCloseHasTheLowestByteFirst(t *testing.T) {
	want := append([]byte("123456789"), 0x83, 0x92, 0x06, 0xe3)
	if b := crc.Close([]byte("123456789")); !bytes.Equal(b, want) {
		t.Error(b)
	}
	wantOpened(t, want, []byte("123456789"))
	wantRefused(t, append([]byte("123456789"), 0xe3, 0x06, 0x92, 0x83))
}

func TestCloseOfLists(t *testing.T) {
	for _, x := range []struct {
		l    [][]byte
		want string
	}{
		{nil, ""},
		{[][]byte{nil}, ""},
		{[][]byte{nil, {}, nil}, ""},
		{[][]byte{[]byte("ab")}, "ab"},
		{[][]byte{[]byte("ab"), nil, []byte("c"), []byte("ab")}, "abcab"},
	} {
		want := binary.LittleEndian.AppendUint32([]byte(x.want), librarySum([]byte(x.want)))
		if got := crc.Close(x.l...); !bytes.Equal(got, want) {
			t.Errorf("%q: %v; want %v", x.l, got, want)
		}
	}
}

func TestOpenRefusesFewerThanFour(t *testing.T) {
	g := rand.New(rand.NewPCG(9, 10))
	for n := range 4 {
		for range 200 {
			wantRefused(t, random(g, n))
		}
		wantRefused(t, make([]byte, n))
		wantRefused(t, bytes.Repeat([]byte{255}, n))
	}
	wantRefused(t, nil)
}

func TestOpenRefusesWhatWasNotClosed(t *testing.T) {
	g := rand.New(rand.NewPCG(11, 12))
	for range 3000 {
		b := random(g, g.IntN(40))
		if _, ok := crc.Open(b); ok != isClosed(b) {
			t.Fatal(b, ok)
		}
	}
	for n := range 64 {
		for _, b := range [][]byte{make([]byte, n), bytes.Repeat([]byte{255}, n)} {
			if _, ok := crc.Open(b); ok != isClosed(b) {
				t.Fatal(b, ok)
			}
		}
	}
}

// Of all ends that differ from the right one in one byte, or by its neighbour
// in number, none will do.
func TestOpenTakesOneEndAlone(t *testing.T) {
	body := []byte("minster")
	sum := crc.Sum(body)
	for at := range 4 {
		for c := range 256 {
			b := crc.Close(body)
			same := b[len(body)+at] == byte(c)
			b[len(body)+at] = byte(c)
			if _, ok := crc.Open(b); ok != same {
				t.Error(at, c, ok)
			}
		}
	}
	for _, other := range []uint32{sum + 1, sum - 1, ^sum, 0, 1<<32 - 1} {
		wantRefused(t, binary.LittleEndian.AppendUint32(slices.Clone(body), other))
	}
}

// endFor is the four bytes behind body with which the whole has that sum: the
// steps that take them in are gone back, for the highest bit tells what went
// out.
func endFor(body []byte, sum uint32) []byte {
	bits := ^sum
	for range 32 {
		if bits>>31 == 1 {
			bits = (bits^0x82f63b78)<<1 | 1
		} else {
			bits <<= 1
		}
	}
	return binary.LittleEndian.AppendUint32(nil, bits^^librarySum(body))
}

// Sums that are the right one but for one bit, wherever it is, will not do.
func TestOpenHoldsAllBitsOfTheSum(t *testing.T) {
	for _, body := range [][]byte{nil, []byte("minster"), make([]byte, 9)} {
		right := slices.Concat(body, endFor(body, crc.Residue()))
		if !bytes.Equal(right, crc.Close(body)) {
			t.Fatal(right)
		}
		for bit := range 32 {
			sum := crc.Residue() ^ 1<<bit
			b := slices.Concat(body, endFor(body, sum))
			if crc.Sum(b) != sum {
				t.Fatal(b, crc.Sum(b))
			}
			wantRefused(t, b)
			wantRefused(t, binary.LittleEndian.AppendUint32(slices.Clone(body), crc.Sum(body)^1<<bit))
		}
	}
}

func TestResidue(t *testing.T) {
	if n := crc.Residue(); n != 1214729159 {
		t.Error(n)
	}
	for _, b := range samples() {
		if n := crc.Sum(crc.Close(b)); n != crc.Residue() {
			t.Errorf("%d bytes: %d", len(b), n)
		}
	}
	if crc.Sum(crc.Close([]byte("a"), []byte("b"))) != crc.Residue() {
		t.Error("of two lists")
	}
}

// P2.3

func TestWhatIsClosedIsOpened(t *testing.T) {
	for _, b := range samples() {
		wantOpened(t, crc.Close(b), b)
	}
	wantOpened(t, crc.Close([]byte("ab"), nil, []byte("c")), []byte("abc"))
}

// flipped is b with those of 32 bits that pattern names turned over, from bit
// at on, in the order in which they are taken in.
func flipped(b []byte, at int, pattern uint32) []byte {
	b = slices.Clone(b)
	for i := range 32 {
		if pattern>>i&1 == 1 {
			b[(at+i)/8] ^= 1 << ((at + i) % 8)
		}
	}
	return b
}

func TestChangesWithinThirtyTwoBitsAreFound(t *testing.T) {
	g := rand.New(rand.NewPCG(13, 14))
	patterns := []uint32{1, 3, 1<<31 | 1, 1<<32 - 1, 0x82f63b78, 0x1edc6f41, 0x05ec76f1, 0x82f63b79}
	for range 40 {
		patterns = append(patterns, g.Uint32()|1)
	}
	for _, b := range [][]byte{nil, {0}, []byte("minster"), make([]byte, 20), random(g, 60)} {
		closed := crc.Close(b)
		for at := 0; at <= 8*len(closed)-32; at++ {
			for _, pattern := range patterns {
				wantRefused(t, flipped(closed, at, pattern))
			}
		}
	}
}

func TestOneBitAtTheVeryEnds(t *testing.T) {
	closed := crc.Close([]byte("minster"))
	for at := range 8 * len(closed) {
		b := slices.Clone(closed)
		b[at/8] ^= 1 << (at % 8)
		wantRefused(t, b)
	}
}

func TestChangesWithinFourBytesOfGreatOnes(t *testing.T) {
	g := rand.New(rand.NewPCG(15, 16))
	closed := crc.Close(random(g, 5000))
	for range 500 {
		pattern := g.Uint32() | 1
		wantRefused(t, flipped(closed, g.IntN(8*len(closed)-31), pattern))
	}
}

func TestWithoutSomeOfTheirBytes(t *testing.T) {
	g := rand.New(rand.NewPCG(17, 18))
	for _, b := range [][]byte{nil, []byte("minster"), make([]byte, 12), random(g, 24), crc.Close(nil), crc.Close([]byte("twice"))} {
		closed := crc.Close(b)
		for from := range closed {
			for to := from + 1; to <= len(closed); to++ {
				rest := slices.Concat(closed[:from], closed[to:])
				if got, ok := crc.Open(rest); ok != isClosed(rest) || !ok && len(got) != 0 {
					t.Errorf("%v without %d to %d: %v, %v", closed, from, to, got, ok)
				}
			}
		}
	}
	closed := crc.Close([]byte("minster"))
	for n := range closed {
		wantRefused(t, closed[:n])
		wantRefused(t, closed[len(closed)-n:])
	}
	twice := crc.Close(crc.Close([]byte("minster")))
	wantOpened(t, twice[:len(twice)-4], []byte("minster"))
}

func TestWithBytesBehindThem(t *testing.T) {
	closed := crc.Close([]byte("minster"))
	for c := range 256 {
		wantRefused(t, append(slices.Clone(closed), byte(c)))
	}
	wantRefused(t, append(slices.Clone(closed), 0, 0, 0, 0))
}

func TestClosedTwiceIsOpenedTwice(t *testing.T) {
	for _, b := range samples() {
		once, ok := crc.Open(crc.Close(crc.Close(b)))
		if !ok || !bytes.Equal(once, crc.Close(b)) {
			t.Error("once:", once, ok)
		}
		wantOpened(t, once, b)
	}
}

// What is handed in is not changed; what is answered is new memory.

func TestAnswersAreNewMemory(t *testing.T) {
	roomy := append(make([]byte, 0, 64), crc.Close([]byte("minster"))...)
	kept := slices.Clone(roomy[:cap(roomy)])
	opened, _ := crc.Open(roomy)
	answers := [][]byte{opened, crc.Close(roomy), crc.Close(roomy[:3], roomy[3:5]), crc.Close(nil, roomy)}
	crc.Sum(roomy, roomy[:2])
	for _, b := range answers {
		for i := range b {
			b[i] ^= 255
		}
		_ = append(b, 99)
	}
	if !bytes.Equal(roomy[:cap(roomy)], kept) {
		t.Error("what was handed in changed:", roomy[:cap(roomy)])
	}
	lists := [][]byte{[]byte("ab"), nil, []byte("cd")}
	crc.Sum(lists...)
	crc.Close(lists...)
	if string(lists[0]) != "ab" || lists[1] != nil || string(lists[2]) != "cd" {
		t.Error("the lists changed:", lists)
	}
}

func TestAnswersShareNothing(t *testing.T) {
	closed := crc.Close([]byte("minster"))
	for name, ask := range map[string]func() []byte{
		"Close":         func() []byte { return crc.Close([]byte("minster")) },
		"Close of none": func() []byte { return crc.Close() },
		"Open":          func() []byte { b, _ := crc.Open(closed); return b },
	} {
		first, second := ask(), ask()
		kept := slices.Clone(second)
		for i := range first {
			first[i] ^= 255
		}
		if !bytes.Equal(second, kept) || !bytes.Equal(ask(), kept) {
			t.Error(name)
		}
	}
}
