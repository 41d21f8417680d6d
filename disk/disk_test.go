package disk_test

import (
	"bytes"
	"iter"
	"math"
	"slices"
	"strings"
	"testing"

	"minster/api"
	"minster/disk"
)

// one is what a file is expected to be.
type one struct {
	name  string
	bytes string
	lasts int
}

// made is a disk that must be one.
func made(t *testing.T, capacity int) *disk.Disk {
	t.Helper()
	d, code := disk.New(capacity)
	if d == nil || code != api.OK {
		t.Fatal("New", capacity, code)
	}
	return d
}

// of is a disk with these files, whose last bytes are loose.
func of(t *testing.T, capacity int, l ...one) *disk.Disk {
	t.Helper()
	d := made(t, capacity)
	for _, f := range l {
		is(t, d.Append(f.name, []byte(f.bytes[:f.lasts])), api.OK)
		is(t, d.Sync(f.name), api.OK)
		if f.lasts < len(f.bytes) {
			is(t, d.Append(f.name, []byte(f.bytes[f.lasts:])), api.OK)
		}
	}
	return d
}

func is(t *testing.T, got, want api.Errno) {
	t.Helper()
	if got != want {
		t.Errorf("answered %d, not %d", got, want)
	}
}

// has tells where d has not just these files, which stand by rising names.
func has(t *testing.T, d *disk.Disk, l ...one) {
	t.Helper()
	rest := l
	for name, size := range d.Files() {
		if len(rest) == 0 {
			t.Fatalf("a file %s too many", name)
		}
		if f := rest[0]; name != f.name || size != len(f.bytes) {
			t.Fatalf("a file %s of %d bytes, not %s of %d", name, size, f.name, len(f.bytes))
		}
		rest = rest[1:]
	}
	if len(rest) > 0 {
		t.Fatalf("no file %s", rest[0].name)
	}
	for _, f := range l {
		b, code := d.Read(f.name)
		if string(b) != f.bytes || code != api.OK {
			t.Errorf("%s reads %q, %d, not %q", f.name, b, code, f.bytes)
		}
		if n, code := d.Lasts(f.name); n != f.lasts || code != api.OK {
			t.Errorf("of %s last %d, %d, not %d", f.name, n, code, f.lasts)
		}
	}
}

// nones are those that are as a nil one is.
func nones() []*disk.Disk {
	return []*disk.Disk{nil, new(disk.Disk)}
}

// notNames may not be.
func notNames() []string {
	l := []string{"", strings.Repeat("a", api.MaxFile+1), strings.Repeat("a", 1000), "a b", "a/b", "a_b", "ä", "aä", "\xff", "a\x00", "a\n", " a", "a "}
	for c := range 256 {
		if !strings.Contains("abcdefghijklmnopqrstuvwxyz0123456789.-", string([]byte{byte(c)})) {
			l = append(l, string([]byte{byte(c)}), string([]byte{'a', byte(c)}), string([]byte{byte(c), 'a'}), string([]byte{'a', byte(c), 'a'}))
		}
	}
	return l
}

// write is one of the five, with whatever it needs beside the name.
type write struct {
	name string
	do   func(d *disk.Disk, file string) api.Errno
}

func writes() []write {
	return []write{
		{"Append", func(d *disk.Disk, file string) api.Errno { return d.Append(file, []byte("x")) }},
		{"Sync", func(d *disk.Disk, file string) api.Errno { return d.Sync(file) }},
		{"Cut", func(d *disk.Disk, file string) api.Errno { return d.Cut(file, 0) }},
		{"Rename", func(d *disk.Disk, file string) api.Errno { return d.Rename(file, "other") }},
		{"Remove", func(d *disk.Disk, file string) api.Errno { return d.Remove(file) }},
	}
}

// P5.1

func TestNew(t *testing.T) {
	for _, n := range []int{1, 2, 9, api.MaxDisk - 1, api.MaxDisk} {
		d := made(t, n)
		has(t, d)
		if d.Room() != n || d.Dead() || d.Writes() != 0 {
			t.Error(n, d.Room(), d.Dead(), d.Writes())
		}
	}
	for _, n := range []int{0, -1, math.MinInt, api.MaxDisk + 1, math.MaxInt} {
		if d, code := disk.New(n); d != nil || code != api.ErrArg {
			t.Error(n, d, code)
		}
	}
}

func TestNewDisksAreApart(t *testing.T) {
	d, o := made(t, 9), made(t, 9)
	is(t, d.Append("a", []byte("x")), api.OK)
	has(t, d, one{"a", "x", 0})
	has(t, o)
}

func TestMayName(t *testing.T) {
	l := []string{"a", "z", "0", "9", ".", "-", "..", "minster.2147483647", "-.-", "a-b.c", strings.Repeat("a", api.MaxFile-1), strings.Repeat("z", api.MaxFile), strings.Repeat(".", api.MaxFile)}
	for _, c := range "abcdefghijklmnopqrstuvwxyz0123456789.-" {
		l = append(l, string(c), "a"+string(c), string(c)+"a")
	}
	for _, name := range l {
		if !disk.MayName(name) {
			t.Errorf("%q may not be", name)
		}
	}
	for _, name := range notNames() {
		if disk.MayName(name) {
			t.Errorf("%q may be", name)
		}
	}
}

// P5.2

func TestAppend(t *testing.T) {
	d := made(t, 9)
	is(t, d.Append("b", []byte("xyz")), api.OK)
	has(t, d, one{"b", "xyz", 0})
	is(t, d.Append("a", nil), api.OK)
	is(t, d.Append("c", []byte{}), api.OK)
	has(t, d, one{"a", "", 0}, one{"b", "xyz", 0}, one{"c", "", 0})
	is(t, d.Sync("b"), api.OK)
	is(t, d.Append("b", []byte("uv")), api.OK)
	is(t, d.Append("b", nil), api.OK)
	is(t, d.Append("a", []byte("\x00\xff")), api.OK)
	has(t, d, one{"a", "\x00\xff", 0}, one{"b", "xyzuv", 3}, one{"c", "", 0})
	if d.Room() != 2 || d.Writes() != 7 {
		t.Error(d.Room(), d.Writes())
	}
}

func TestAppendUpToTheCapacity(t *testing.T) {
	for _, n := range []int{1, 2, 9} {
		d := made(t, n)
		is(t, d.Append("a", bytes.Repeat([]byte("x"), n+1)), api.ErrFull)
		has(t, d)
		is(t, d.Append("a", bytes.Repeat([]byte("x"), n)), api.OK)
		is(t, d.Append("a", []byte("x")), api.ErrFull)
		is(t, d.Append("b", []byte("x")), api.ErrFull)
		is(t, d.Append("a", nil), api.OK)
		has(t, d, one{"a", strings.Repeat("x", n), 0})
		is(t, d.Append("b", nil), api.OK)
		has(t, d, one{"a", strings.Repeat("x", n), 0}, one{"b", "", 0})
		if d.Room() != 0 {
			t.Error(d.Room())
		}
	}
}

func TestAppendCountsAllFiles(t *testing.T) {
	d := of(t, 9, one{"a", "xyz", 0}, one{"b", "uvw", 3})
	is(t, d.Append("c", []byte("1234")), api.ErrFull)
	is(t, d.Append("b", []byte("1234")), api.ErrFull)
	is(t, d.Append("c", []byte("123")), api.OK)
	is(t, d.Append("c", []byte("4")), api.ErrFull)
	is(t, d.Cut("a", 2), api.OK)
	is(t, d.Append("c", []byte("4")), api.OK)
	is(t, d.Append("c", []byte("5")), api.ErrFull)
	is(t, d.Remove("b"), api.OK)
	is(t, d.Append("c", []byte("5678")), api.ErrFull)
	is(t, d.Append("c", []byte("567")), api.OK)
	is(t, d.Rename("a", "c"), api.OK)
	is(t, d.Append("b", []byte("12345678")), api.ErrFull)
	is(t, d.Append("b", []byte("1234567")), api.OK)
	has(t, d, one{"b", "1234567", 0}, one{"c", "xy", 0})
}

func TestTheGreatestDisk(t *testing.T) {
	d := made(t, api.MaxDisk)
	half := make([]byte, api.MaxDisk/2)
	is(t, d.Append("a", half), api.OK)
	is(t, d.Append("b", half), api.OK)
	is(t, d.Append("c", []byte("x")), api.ErrFull)
	is(t, d.Cut("a", 5), api.OK)
	if d.Room() != api.MaxDisk/2-5 {
		t.Error(d.Room())
	}
}

// names are n of them, rising.
func names(n int) []string {
	var l []string
	for i := range n {
		l = append(l, string([]byte{'f', byte('0' + i/10), byte('0' + i%10)}))
	}
	return l
}

func TestFilesAreAtMostSoMany(t *testing.T) {
	d := made(t, 99)
	for _, name := range names(api.MaxFiles) {
		is(t, d.Append(name, nil), api.OK)
	}
	d1 := d.Copy()
	is(t, d.Append("a", nil), api.ErrFull)
	is(t, d.Append("a", []byte("x")), api.ErrFull)
	is(t, d.Append("z", nil), api.ErrFull)
	if !d.Same(d1) || d.Writes() != api.MaxFiles {
		t.Error(d.Writes())
	}
	is(t, d.Append("f00", []byte("x")), api.OK)
	is(t, d.Rename("f00", "z"), api.OK)
	is(t, d.Append("f00", nil), api.ErrFull)
	is(t, d.Rename("z", "f01"), api.OK)
	is(t, d.Append("f00", nil), api.OK)
	is(t, d.Append("a", nil), api.ErrFull)
	is(t, d.Remove("f05"), api.OK)
	is(t, d.Append("a", []byte("y")), api.OK)
	is(t, d.Append("b", nil), api.ErrFull)
	if n := len(sizes(d)); n != api.MaxFiles {
		t.Error(n)
	}
}

func TestSync(t *testing.T) {
	d := of(t, 99, one{"a", "xyz", 0}, one{"b", "uvw", 1}, one{"c", "", 0})
	is(t, d.Sync("b"), api.OK)
	has(t, d, one{"a", "xyz", 0}, one{"b", "uvw", 3}, one{"c", "", 0})
	is(t, d.Sync("b"), api.OK)
	is(t, d.Sync("c"), api.OK)
	has(t, d, one{"a", "xyz", 0}, one{"b", "uvw", 3}, one{"c", "", 0})
	is(t, d.Append("b", []byte("x")), api.OK)
	has(t, d, one{"a", "xyz", 0}, one{"b", "uvwx", 3}, one{"c", "", 0})
}

func TestCut(t *testing.T) {
	for n := range 6 {
		d := of(t, 99, one{"a", "12345", 3}, one{"b", "xy", 1})
		is(t, d.Cut("a", n), api.OK)
		has(t, d, one{"a", "12345"[:n], min(n, 3)}, one{"b", "xy", 1})
		if d.Room() != 97-n {
			t.Error(n, d.Room())
		}
		is(t, d.Append("a", []byte("uvw")), api.OK)
		has(t, d, one{"a", "12345"[:n] + "uvw", min(n, 3)}, one{"b", "xy", 1})
	}
	for _, n := range []int{6, 7, 100, math.MaxInt, -1, -5, math.MinInt} {
		d := of(t, 99, one{"a", "12345", 3})
		is(t, d.Cut("a", n), api.ErrArg)
		has(t, d, one{"a", "12345", 3})
	}
	d := of(t, 99, one{"a", "", 0})
	is(t, d.Cut("a", 1), api.ErrArg)
	is(t, d.Cut("a", 0), api.OK)
	has(t, d, one{"a", "", 0})
}

func TestRename(t *testing.T) {
	a, b, c := one{"a", "xyz", 1}, one{"b", "uvw12", 3}, one{"c", "", 0}
	d := of(t, 99, a, b, c)
	is(t, d.Rename("a", "d"), api.OK)
	has(t, d, b, c, one{"d", "xyz", 1})
	is(t, d.Rename("d", "a"), api.OK)
	has(t, d, a, b, c)
	is(t, d.Rename("b", "a"), api.OK)
	has(t, d, one{"a", "uvw12", 3}, c)
	if d.Room() != 94 {
		t.Error(d.Room())
	}
	is(t, d.Rename("c", "a"), api.OK)
	has(t, d, one{"a", "", 0})
	is(t, d.Rename("c", "a"), api.ErrNone)
	is(t, d.Append("a", []byte("z")), api.OK)
	is(t, d.Append("c", []byte("y")), api.OK)
	has(t, d, one{"a", "z", 0}, one{"c", "y", 0})
}

func TestRenameToItself(t *testing.T) {
	a, b := one{"a", "xyz", 1}, one{"b", "", 0}
	d := of(t, 99, a, b)
	is(t, d.Rename("a", "a"), api.OK)
	is(t, d.Rename("b", "b"), api.OK)
	has(t, d, a, b)
	is(t, d.Rename("c", "c"), api.ErrNone)
	is(t, d.Rename("C", "C"), api.ErrArg)
	has(t, d, a, b)
}

func TestRemove(t *testing.T) {
	a, b, c := one{"a", "xyz", 1}, one{"b", "uvw", 3}, one{"c", "", 0}
	d := of(t, 99, a, b, c)
	is(t, d.Remove("b"), api.OK)
	has(t, d, a, c)
	is(t, d.Remove("b"), api.ErrNone)
	is(t, d.Remove("c"), api.OK)
	has(t, d, a)
	is(t, d.Append("b", []byte("1")), api.OK)
	has(t, d, a, one{"b", "1", 0})
	if d.Room() != 95 {
		t.Error(d.Room())
	}
}

// Behind a loss of power, whatever was not synced.
func TestWhatLastsAtOnce(t *testing.T) {
	d := of(t, 99, one{"a", "xyz", 3}, one{"b", "12345", 5}, one{"c", "uv", 2}, one{"d", "w", 1})
	is(t, d.Cut("b", 2), api.OK)
	is(t, d.Rename("c", "e"), api.OK)
	is(t, d.Rename("a", "d"), api.OK)
	is(t, d.Append("f", []byte("x")), api.OK)
	is(t, d.Append("g", nil), api.OK)
	has(t, d.Crash(), one{"b", "12", 2}, one{"d", "xyz", 3}, one{"e", "uv", 2}, one{"f", "", 0}, one{"g", "", 0})
	is(t, d.Remove("b"), api.OK)
	has(t, d.Crash(), one{"d", "xyz", 3}, one{"e", "uv", 2}, one{"f", "", 0}, one{"g", "", 0})
}

// None of these changes anything, or is a write.
func TestRefusedWrites(t *testing.T) {
	a := one{"a", "xyz", 1}
	for _, dead := range []bool{false, true} {
		d := of(t, 9, a)
		n := d.Writes()
		if dead {
			d.Fuse(0)
			is(t, d.Sync("a"), api.ErrDead)
			n++
		} else {
			d.Fuse(1)
		}
		for _, name := range notNames() {
			for _, w := range writes() {
				if code := w.do(d, name); code != api.ErrArg {
					t.Errorf("%s %q: %d", w.name, name, code)
				}
			}
			is(t, d.Append(name, make([]byte, 10)), api.ErrArg)
			is(t, d.Rename("a", name), api.ErrArg)
			is(t, d.Rename("b", name), api.ErrArg)
			is(t, d.Rename(name, "a"), api.ErrArg)
			is(t, d.Cut(name, -1), api.ErrArg)
		}
		for _, name := range []string{"b", "aa", ".", strings.Repeat("a", 32)} {
			for _, w := range writes()[1:] {
				if code := w.do(d, name); code != api.ErrNone {
					t.Errorf("%s %q: %d", w.name, name, code)
				}
			}
			is(t, d.Cut(name, -1), api.ErrArg)
			is(t, d.Append(name, make([]byte, 7)), api.ErrFull)
		}
		is(t, d.Append("a", make([]byte, 7)), api.ErrFull)
		is(t, d.Cut("a", 4), api.ErrArg)
		is(t, d.Cut("a", -1), api.ErrArg)
		has(t, d, a)
		if d.Writes() != n || d.Dead() != dead {
			t.Error(dead, d.Writes(), n)
		}
		if !dead { // nor was the fuse shortened
			is(t, d.Append("a", nil), api.OK)
			is(t, d.Append("a", nil), api.ErrDead)
		}
	}
}

func TestWritesOfNone(t *testing.T) {
	for _, d := range nones() {
		for _, name := range []string{"a", "A", ""} {
			for _, w := range writes() {
				if code := w.do(d, name); code != api.ErrNil {
					t.Errorf("%s %q: %d", w.name, name, code)
				}
			}
			is(t, d.Append(name, nil), api.ErrNil)
			is(t, d.Append(name, make([]byte, 99)), api.ErrNil)
			is(t, d.Cut(name, -1), api.ErrNil)
			is(t, d.Rename(name, "B"), api.ErrNil)
		}
		has(t, d)
	}
}

func TestWhatIsHandedInStaysTheCallers(t *testing.T) {
	d := made(t, 99)
	b := append(make([]byte, 0, 64), "xyz"...)
	is(t, d.Append("a", b), api.OK)
	is(t, d.Append("b", b), api.OK)
	copy(b, "123")
	_ = append(b, "456"...)
	has(t, d, one{"a", "xyz", 0}, one{"b", "xyz", 0})
	is(t, d.Append("a", []byte("uv")), api.OK)
	is(t, d.Append("b", []byte("w")), api.OK)
	if string(b[:6]) != "123456" {
		t.Errorf("%q", b[:6])
	}
	has(t, d, one{"a", "xyzuv", 0}, one{"b", "xyzw", 0})
}

// size is a file's name, and how many bytes it has.
type size struct {
	name string
	n    int
}

// sizes are what Files goes over.
func sizes(d *disk.Disk) []size {
	return gone(d.Files())
}

// gone is all that such a function goes over.
func gone(files iter.Seq2[string, int]) []size {
	var l []size
	for name, n := range files {
		l = append(l, size{name, n})
	}
	return l
}

func rising(l []size) bool {
	return slices.IsSortedFunc(l, func(a, b size) int { return strings.Compare(a.name, b.name) })
}
