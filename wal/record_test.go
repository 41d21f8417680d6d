package wal_test

import (
	"bytes"
	"encoding/binary"
	"hash/crc32"
	"math/rand/v2"
	"slices"
	"strings"
	"testing"

	"minster/api"
	"minster/wal"
)

// P6.4

// written is a record's bytes by the library's sum.
func written(size uint32, b string) []byte {
	head := binary.BigEndian.AppendUint32(nil, size)
	sum := crc32.Checksum([]byte(string(head)+b), crc32.MakeTable(crc32.Castagnoli))
	return append(binary.BigEndian.AppendUint32(head, sum), b...)
}

func record(b string) []byte {
	return written(uint32(len(b)), b)
}

func TestRecord(t *testing.T) {
	for _, b := range []string{"", "x", "\x00", "some bytes", strings.Repeat("u", 255), strings.Repeat("v", 256), strings.Repeat("w", 70000), strings.Repeat("\xff", api.MaxRecord-1), strings.Repeat("\x00", api.MaxRecord)} {
		in := []byte(b)
		got, code := wal.Record(in)
		if code != api.OK || !bytes.Equal(got, record(b)) {
			t.Errorf("of %d bytes: %d bytes, %d", len(b), len(got), code)
		}
		clear(got)
		if string(in) != b {
			t.Error("what was handed in changed")
		}
	}
	got, code := wal.Record(nil)
	if code != api.OK || string(got) != "\x00\x00\x00\x00\x48\x67\x4b\xc7" {
		t.Errorf("%q, %d", got, code)
	}
}

func TestRecordTooLong(t *testing.T) {
	for _, n := range []int{api.MaxRecord + 1, 2 * api.MaxRecord, 1 << 24} {
		if b, code := wal.Record(make([]byte, n)); b != nil || code != api.ErrLong {
			t.Error(n, len(b), code)
		}
	}
}

// wants tells where Whole does not answer these records of b.
func wants(t *testing.T, b []byte, want ...string) {
	t.Helper()
	was := slices.Clone(b)
	got, n := wal.Whole(b)
	size := sizeOf(want...)
	if n != size || len(got) != len(want) {
		t.Fatalf("%d records, %d bytes, not %d, %d", len(got), n, len(want), size)
	}
	for i, r := range got {
		if string(r) != want[i] {
			t.Fatalf("the record %d is %q, not %q", i, r, want[i])
		}
	}
	for _, r := range got { // each is the caller's
		_ = append(r, "behind it"...)
		clear(r)
	}
	for i, r := range got {
		if len(bytes.Trim(r, "\x00")) > 0 || len(r) != len(want[i]) {
			t.Fatalf("two share their memory: %q", r)
		}
	}
	if !bytes.Equal(b, was) {
		t.Fatal("what was handed in changed")
	}
}

func TestWhole(t *testing.T) {
	wants(t, nil)
	wants(t, []byte{})
	wants(t, record(""), "")
	wants(t, record("x"), "x")
	wants(t, slices.Concat(record("x"), record(""), record("yz"), record("")), "x", "", "yz", "")
	most := strings.Repeat("u", api.MaxRecord)
	wants(t, slices.Concat(record("x"), record(most), record(most), record("y")), "x", most, most, "y")
}

// Of no whole record more is told than there is: at each place where the bytes
// end, and whatever stands there.
func TestWholeOfBeginnings(t *testing.T) {
	l := []string{"x", "", "yz", "some more", "", "u"}
	var all []byte
	for _, b := range l {
		all = append(all, record(b)...)
	}
	for n := range len(all) + 1 {
		i := 0
		for i < len(l) && sizeOf(l[:i+1]...) <= n {
			i++
		}
		wants(t, all[:n], l[:i]...)
		wants(t, append(slices.Clone(all[:n]), "\xff\xff\xff\xff\xff\xff\xff\xff\xff"...), l[:i]...)
		if sizeOf(l[:i]...) == n { // what stands behind a wrong record is not told
			wants(t, slices.Concat(all[:n], []byte("x"), all), l[:i]...)
		}
	}
}

// No byte of a record may be another one, its size and its sum neither.
func TestWholeOfChangedBytes(t *testing.T) {
	all := slices.Concat(record("ahead"), record("changed"), record("behind"))
	from := len(record("ahead"))
	for i := range len(record("changed")) {
		for bit := range 8 {
			b := slices.Clone(all)
			b[from+i] ^= 1 << bit
			wants(t, b, "ahead")
			wants(t, b[from:])
		}
	}
}

// A sum that is right is not enough: there must be as many bytes as it says,
// and no more than there may be.
func TestWholeOfWrongSizes(t *testing.T) {
	for _, size := range []uint32{1, 3, 4, 1 << 20, 1<<31 - 1, 1 << 31, 1<<32 - 1} {
		wants(t, append(record("x"), written(size, "yz")...), "x")
		wants(t, written(size, ""))
	}
	for _, n := range []int{api.MaxRecord + 1, api.MaxRecord + 100, 1 << 21} {
		wants(t, slices.Concat(record("x"), written(uint32(n), strings.Repeat("u", n)), record("y")), "x")
	}
	// the sum's lowest byte first, as a frame is closed, is none
	b := record("x")
	slices.Reverse(b[4:8])
	wants(t, b)
}

func TestWholeOfRandomBytes(t *testing.T) {
	g := rand.New(rand.NewPCG(1, 6))
	for range 3000 {
		var b []byte
		var want []string
		for range g.IntN(5) {
			r := make([]byte, g.IntN(20))
			for i := range r {
				r[i] = byte(g.IntN(256) >> g.IntN(9))
			}
			b, want = append(b, record(string(r))...), append(want, string(r))
		}
		for range g.IntN(12) {
			b = append(b, byte(g.IntN(256)>>g.IntN(9)))
		}
		for len(b) > sizeOf(want...) { // a tail that is a record by chance is told by the library's sum
			tail := b[sizeOf(want...):]
			if len(tail) < 8 || int(tail[3]) > len(tail)-8 || !bytes.HasPrefix(tail, record(string(tail[8:8+tail[3]]))) {
				break
			}
			want = append(want, string(tail[8:8+tail[3]]))
		}
		wants(t, b, want...)
	}
}

func TestWholeOfManyRecords(t *testing.T) {
	n := 1 << 17
	got, size := wal.Whole(bytes.Repeat(record(""), n))
	if len(got) != n || size != 8*n {
		t.Error(len(got), size)
	}
}
