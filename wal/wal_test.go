package wal_test

import (
	"bytes"
	"fmt"
	"math"
	"slices"
	"strings"
	"testing"

	"minster/api"
	"minster/disk"
	"minster/wal"
)

func made(t *testing.T, capacity int) *disk.Disk {
	t.Helper()
	d, code := disk.New(capacity)
	if d == nil || code != api.OK {
		t.Fatal("New", capacity, code)
	}
	return d
}

// opened is a log that must be one.
func opened(t *testing.T, d *disk.Disk, name string) *wal.Log {
	t.Helper()
	l, code := wal.Open(d, name, 99)
	if l == nil || code != api.OK {
		t.Fatal("Open", name, code)
	}
	return l
}

// holding is a log with that snapshot and these records, all of which last.
func holding(t *testing.T, d *disk.Disk, snapshot string, records ...string) *wal.Log {
	t.Helper()
	l := opened(t, d, "a")
	is(t, l.Turn([]byte(snapshot)), api.OK)
	for _, b := range records {
		is(t, l.Append([]byte(b)), api.OK)
	}
	is(t, l.Sync(), api.OK)
	return l
}

func is(t *testing.T, got, want api.Errno) {
	t.Helper()
	if got != want {
		t.Errorf("answered %d, not %d", got, want)
	}
}

func records(l *wal.Log) []string {
	var all []string
	for b := range l.Records() {
		all = append(all, string(b))
	}
	return all
}

// sizeOf is how many bytes these have as records.
func sizeOf(l ...string) int {
	n := 0
	for _, b := range l {
		n += 8 + len(b)
	}
	return n
}

// looks tells where a log is not as it should be, by all that it tells.
func looks(t *testing.T, l *wal.Log, segment, synced int, snapshot string, want ...string) {
	t.Helper()
	if got := l.Snapshot(); string(got) != snapshot {
		t.Errorf("the snapshot is %q, not %q", got, snapshot)
	}
	if got := records(l); !slices.Equal(got, want) {
		t.Errorf("the records are %q, not %q", got, want)
	}
	if l.Len() != len(want) || l.Synced() != synced || l.Segment() != segment {
		t.Errorf("Len %d, Synced %d, Segment %d, not %d, %d, %d", l.Len(), l.Synced(), l.Segment(), len(want), synced, segment)
	}
	if size := sizeOf(append(want, snapshot)...); l.Size() != size || l.Big() != (size > 99) {
		t.Errorf("Size %d, Big %v, not %d", l.Size(), l.Big(), size)
	}
}

// bytesOf is the bytes of these records, one behind the other.
func bytesOf(t *testing.T, l ...string) string {
	t.Helper()
	var all []byte
	for _, b := range l {
		record, code := wal.Record([]byte(b))
		is(t, code, api.OK)
		all = append(all, record...)
	}
	return string(all)
}

// put makes a file whose bytes last.
func put(t *testing.T, d *disk.Disk, name, b string) {
	t.Helper()
	is(t, d.Append(name, []byte(b)), api.OK)
	is(t, d.Sync(name), api.OK)
}

// stands tells where a disk has not just these files, told as name, bytes,
// name, bytes; all of which last.
func stands(t *testing.T, d *disk.Disk, want ...string) {
	t.Helper()
	var got []string
	for name, size := range d.Files() {
		b, _ := d.Read(name)
		got = append(got, name, string(b))
		if n, _ := d.Lasts(name); n != size {
			t.Errorf("of %s last %d, not %d", name, n, size)
		}
	}
	if !slices.Equal(got, want) {
		t.Errorf("on the disk stands %q, not %q", got, want)
	}
}

// nones are those that are as a nil one is.
func nones() []*wal.Log {
	return []*wal.Log{nil, new(wal.Log)}
}

// The chapter's examples, in turn.
func TestExamples(t *testing.T) {
	d := made(t, 999)
	l := opened(t, d, "a")
	looks(t, l, 1, 0, "")
	is(t, l.Append([]byte("x")), api.OK)
	is(t, l.Sync(), api.OK)
	is(t, l.Append([]byte("y")), api.OK)
	d = d.Crash(3)
	l = opened(t, d, "a")
	looks(t, l, 1, 1, "", "x")
	is(t, l.Turn([]byte("s")), api.OK)
	is(t, l.Append([]byte("z")), api.OK)
	is(t, l.Sync(), api.OK)
	looks(t, opened(t, d, "a"), 2, 1, "s", "z")
}

// P6.1

func TestOpenRefuses(t *testing.T) {
	d := made(t, 99)
	for i, x := range []struct {
		d    *disk.Disk
		name string
		most int
	}{
		{nil, "a", 1},
		{new(disk.Disk), "a", 1},
		{nil, "A", 0},
		{d, "", 1},
		{d, "A", 1},
		{d, "a/b", 1},
		{d, "a\n", 1},
		{d, strings.Repeat("a", 17), 1},
		{d, strings.Repeat("a", 32), 1},
		{d, strings.Repeat("a", 1000), 1},
		{d, "a", 0},
		{d, "a", -1},
		{d, "a", math.MinInt},
		{d, "a", 1<<20 + 1},
		{d, "a", math.MaxInt},
	} {
		if l, code := wal.Open(x.d, x.name, x.most); l != nil || code != api.ErrArg {
			t.Error(i, l, code)
		}
	}
	stands(t, d)
	if d.Writes() != 0 {
		t.Error(d.Writes())
	}
	d.Fuse(0) // what may not be counts ahead of the power
	is(t, d.Append("b", nil), api.ErrDead)
	if l, code := wal.Open(d, "A", 1); l != nil || code != api.ErrArg {
		t.Error(l, code)
	}
	if l, code := wal.Open(d, "a", 1); l != nil || code != api.ErrDead {
		t.Error(l, code)
	}
}

func TestOpenTakesAllNamesAndMostsThatMayBe(t *testing.T) {
	for _, name := range []string{"a", "9", ".", "-", "..", "a.1", "-1", strings.Repeat("z", 15), strings.Repeat("z", 16), strings.Repeat(".", 16)} {
		d := made(t, 99)
		looks(t, opened(t, d, name), 1, 0, "")
		stands(t, d, name+".1", bytesOf(t, ""))
	}
	for _, most := range []int{1, 2, 1<<20 - 1, 1 << 20} {
		if l, code := wal.Open(made(t, 99), "a", most); l == nil || code != api.OK {
			t.Error(most, code)
		}
	}
}

func TestOpenBeginsTheFirstSegment(t *testing.T) {
	d := made(t, 8)
	looks(t, opened(t, d, "a"), 1, 0, "")
	stands(t, d, "a.1", "\x00\x00\x00\x00\x48\x67\x4b\xc7")
	looks(t, opened(t, d, "a"), 1, 0, "")
	stands(t, d, "a.1", "\x00\x00\x00\x00\x48\x67\x4b\xc7")
}

func TestOpenWithoutRoom(t *testing.T) {
	for _, n := range []int{1, 7} {
		d := made(t, n)
		if l, code := wal.Open(d, "a", 1); l != nil || code != api.ErrFull {
			t.Error(n, l, code)
		}
		stands(t, d)
	}
	d := made(t, 10)
	put(t, d, "b", "xyz")
	d.Fuse(0) // no room counts ahead of no power, and nothing is written
	if l, code := wal.Open(d, "a", 1); l != nil || code != api.ErrFull {
		t.Error(l, code)
	}
	stands(t, d, "b", "xyz")
	d = made(t, 999)
	for i := range api.MaxFiles {
		is(t, d.Append(fmt.Sprint("b", i), nil), api.OK)
	}
	before := d.Copy()
	if l, code := wal.Open(d, "a", 1); l != nil || code != api.ErrFull {
		t.Error(l, code)
	}
	if !d.Same(before) {
		t.Error("it changed")
	}
	is(t, d.Remove("b7"), api.OK)
	opened(t, d, "a")
}

// What was whole, but for its last byte, does not count: it makes room.
func TestOpenMakesRoomOfWhatDoesNotCount(t *testing.T) {
	d := made(t, 10)
	put(t, d, "a.7", bytesOf(t, "xy")[:9])
	looks(t, opened(t, d, "a"), 1, 0, "")
	stands(t, d, "a.1", bytesOf(t, ""))
	d = made(t, 10)
	put(t, d, "a.7", "x")
	put(t, d, "b", "xyz")
	if l, code := wal.Open(d, "a", 1); l != nil || code != api.ErrFull {
		t.Error(l, code)
	}
	if b, code := d.Read("b"); string(b) != "xyz" || code != api.OK {
		t.Error(b, code)
	}
}

// torn are beginnings of segments that do not count.
func torn(t *testing.T) []string {
	whole := bytesOf(t, "snap")
	wrong := []string{"", "x", "\x00\x00\x00\x00\x00\x00\x00\x00", strings.Repeat("\xff", 30)}
	for i := range whole {
		changed := []byte(whole)
		changed[i] ^= 1
		wrong = append(wrong, whole[:i], string(changed), string(changed)+bytesOf(t, "r"))
	}
	return wrong
}

func TestOpenTakesTheGreatestThatCounts(t *testing.T) {
	elder, one := bytesOf(t, "old", "o"), bytesOf(t, "snap", "r", "", "s")
	for _, wrong := range torn(t) {
		d := made(t, 999)
		put(t, d, "a.9", elder)
		put(t, d, "a.10", one)
		put(t, d, "a.11", wrong)
		put(t, d, "a.2", wrong)
		put(t, d, "a.2147483647", wrong)
		looks(t, opened(t, d, "a"), 10, 3, "snap", "r", "", "s")
		stands(t, d, "a.10", one)
	}
}

func TestOpenWhereNoneCounts(t *testing.T) {
	for _, wrong := range torn(t) {
		for _, number := range []string{"1", "2", "2147483647"} {
			d := made(t, 999)
			put(t, d, "a."+number, wrong)
			looks(t, opened(t, d, "a"), 1, 0, "")
			stands(t, d, "a.1", bytesOf(t, ""))
		}
	}
}

func TestOpenCutsWhatIsNotWhole(t *testing.T) {
	whole := bytesOf(t, "snap", "r", "")
	for _, wrong := range torn(t) {
		d := made(t, 999)
		put(t, d, "a.3", whole+wrong)
		looks(t, opened(t, d, "a"), 3, 2, "snap", "r", "")
		stands(t, d, "a.3", whole)
	}
}

// The greatest number that there may be, and files that are none of the log's.
func TestOpenLeavesOtherFiles(t *testing.T) {
	d := made(t, 999)
	for _, name := range []string{"a", "a.", "a.0", "a.01", "a.00", "a.-1", "a.2147483648", "a.99999999999999999999", "a.18446744073709551617", "a.1.1", "a.1.", "a..1", "a-1", "a.x", "a.1x", "a.02147483647", "2147483647", "aa.1", "b.1", ".1", "1", "a.1a.1"} {
		put(t, d, name, bytesOf(t, "other"))
	}
	before := d.Copy()
	put(t, d, "a.2147483647", bytesOf(t, "snap", "r"))
	put(t, d, "a.2147483646", bytesOf(t, "no"))
	put(t, d, "a.4", bytesOf(t, "no"))
	l := opened(t, d, "a")
	looks(t, l, api.MaxSegment, 1, "snap", "r")
	is(t, d.Remove("a.2147483647"), api.OK)
	if !d.Same(before) {
		t.Error("other files changed")
	}
}

func TestLogsOfSeveralNames(t *testing.T) {
	d := made(t, 999)
	a, b, c := opened(t, d, "a"), opened(t, d, "a.1"), opened(t, d, "a.1.1")
	is(t, a.Append([]byte("of a")), api.OK)
	is(t, b.Turn([]byte("of b")), api.OK)
	is(t, c.Append([]byte("of c")), api.OK)
	looks(t, opened(t, d, "a.1.1"), 1, 1, "", "of c")
	looks(t, opened(t, d, "a"), 1, 1, "", "of a")
	looks(t, opened(t, d, "a.1"), 2, 0, "of b")
	stands(t, d, "a.1", bytesOf(t, "", "of a"), "a.1.1.1", bytesOf(t, "", "of c"), "a.1.2", bytesOf(t, "of b"))
}

// What is opened with its power on has the loose records, too: they last then.
func TestOpenSyncs(t *testing.T) {
	d := made(t, 999)
	l := opened(t, d, "a")
	is(t, l.Append([]byte("x")), api.OK)
	is(t, l.Append([]byte("y")), api.OK)
	looks(t, l, 1, 0, "", "x", "y")
	looks(t, opened(t, d, "a"), 1, 2, "", "x", "y")
	stands(t, d.Crash(), "a.1", bytesOf(t, "", "x", "y"))
}

// P6.2

func TestAppendAndSync(t *testing.T) {
	d := made(t, 9999)
	l := opened(t, d, "a")
	var all []string
	for i, b := range []string{"x", "", "yz", strings.Repeat("u", 300), "", "\x00\x00\x00\x00\x48\x67\x4b\xc7"} {
		looks(t, l, 1, i, "", all...)
		is(t, l.Append([]byte(b)), api.OK)
		all = append(all, b)
		looks(t, l, 1, i, "", all...)
		if n, _ := d.Lasts("a.1"); n != sizeOf(append(all[:i:i], "")...) {
			t.Error("what is loose lasts:", n)
		}
		if got, _ := d.Read("a.1"); string(got) != bytesOf(t, append([]string{""}, all...)...) {
			t.Errorf("%q", got)
		}
		is(t, l.Sync(), api.OK)
		looks(t, l, 1, i+1, "", all...)
		stands(t, d, "a.1", bytesOf(t, append([]string{""}, all...)...))
	}
	is(t, l.Sync(), api.OK)
	looks(t, l, 1, len(all), "", all...)
	looks(t, opened(t, d, "a"), 1, len(all), "", all...)
}

func TestTurn(t *testing.T) {
	d := made(t, 999)
	l := opened(t, d, "a")
	for i, s := range []string{"s", "", "another one"} {
		is(t, l.Append([]byte("loose")), api.OK)
		is(t, l.Turn([]byte(s)), api.OK)
		looks(t, l, i+2, 0, s)
		stands(t, d, fmt.Sprint("a.", i+2), bytesOf(t, s))
		looks(t, opened(t, d.Crash(), "a"), i+2, 0, s)
	}
	is(t, l.Append([]byte("x")), api.OK)
	is(t, l.Sync(), api.OK)
	looks(t, l, 4, 1, "another one", "x")
	stands(t, d, "a.4", bytesOf(t, "another one", "x"))
}

// A file of the next number is not appended to.
func TestTurnRemovesWhatIsThere(t *testing.T) {
	d := made(t, 999)
	l := opened(t, d, "a")
	put(t, d, "a.2", bytesOf(t, "no"))
	put(t, d, "a.3", "x")
	is(t, l.Turn([]byte("s")), api.OK)
	looks(t, l, 2, 0, "s")
	stands(t, d, "a.2", bytesOf(t, "s"), "a.3", "x")
}

func TestLongRecords(t *testing.T) {
	d := made(t, api.MaxDisk)
	l := opened(t, d, "a")
	most := strings.Repeat("u", api.MaxRecord)
	is(t, l.Append([]byte(most+"u")), api.ErrLong)
	is(t, l.Turn([]byte(most+"u")), api.ErrLong)
	looks(t, l, 1, 0, "")
	stands(t, d, "a.1", bytesOf(t, ""))
	is(t, l.Turn([]byte(most)), api.OK)
	is(t, l.Append([]byte(most)), api.OK)
	is(t, l.Sync(), api.OK)
	looks(t, l, 2, 1, most, most)
	looks(t, opened(t, d, "a"), 2, 1, most, most)
}

func TestNoRoomChangesNothing(t *testing.T) {
	d := made(t, 30)
	l := holding(t, d, "", "x")
	before := d.Copy()
	for range 2 {
		is(t, l.Append([]byte("123456")), api.ErrFull)
		is(t, l.Turn([]byte("123456")), api.ErrFull)
		looks(t, l, 2, 1, "", "x")
		if !d.Same(before) {
			t.Error("the disk changed")
		}
	}
	is(t, l.Turn([]byte("12345")), api.OK) // the log is not dead by that
	looks(t, l, 3, 0, "12345")
	is(t, l.Append([]byte("123456789")), api.OK)
	is(t, l.Append(nil), api.ErrFull)
	looks(t, l, 3, 0, "12345", "123456789")
}

func TestTheLastSegment(t *testing.T) {
	d := made(t, 999)
	put(t, d, "a.2147483646", bytesOf(t, "s"))
	l := opened(t, d, "a")
	is(t, l.Turn([]byte("t")), api.OK)
	looks(t, l, api.MaxSegment, 0, "t")
	is(t, l.Turn(make([]byte, api.MaxRecord+1)), api.ErrLong)
	is(t, l.Turn([]byte("u")), api.ErrFull)
	is(t, l.Append([]byte("x")), api.OK)
	is(t, l.Sync(), api.OK)
	looks(t, l, api.MaxSegment, 1, "t", "x")
	stands(t, d, "a.2147483647", bytesOf(t, "t", "x"))
	d.Fuse(0)
	is(t, l.Turn([]byte("u")), api.ErrFull) // it does not come to the write
	is(t, l.Sync(), api.ErrDead)
	is(t, l.Turn([]byte("u")), api.ErrState)
}

// The order of the errors: nil, long, state.
func TestOrderOfErrors(t *testing.T) {
	long := make([]byte, api.MaxRecord+1)
	for _, l := range nones() {
		is(t, l.Append(long), api.ErrNil)
		is(t, l.Turn(long), api.ErrNil)
		is(t, l.Append(nil), api.ErrNil)
		is(t, l.Turn(nil), api.ErrNil)
		is(t, l.Sync(), api.ErrNil)
	}
	for i, write := range []func(l *wal.Log) api.Errno{
		func(l *wal.Log) api.Errno { return l.Append(nil) },
		(*wal.Log).Sync,
		func(l *wal.Log) api.Errno { return l.Turn(nil) },
	} {
		d := made(t, 40)
		l := holding(t, d, "s", "x")
		d.Fuse(0)
		is(t, l.Append(long), api.ErrLong)
		is(t, l.Append(make([]byte, 30)), api.ErrFull)
		is(t, l.Turn(make([]byte, 30)), api.ErrFull)
		is(t, write(l), api.ErrDead)
		is(t, l.Append(long), api.ErrLong)
		is(t, l.Turn(long), api.ErrLong)
		is(t, l.Append(make([]byte, 30)), api.ErrState)
		is(t, l.Turn(make([]byte, 30)), api.ErrState)
		is(t, l.Append(nil), api.ErrState)
		is(t, l.Sync(), api.ErrState)
		is(t, l.Turn(nil), api.ErrState)
		looks(t, l, 2, 1, "s", "x")
		if t.Failed() {
			t.Fatal(i)
		}
	}
}

// A log that did not meet ErrDead itself meets it once.
func TestPowerThatWentElsewhere(t *testing.T) {
	d := made(t, 99)
	l := holding(t, d, "s", "x")
	d.Fuse(0)
	is(t, d.Append("b", nil), api.ErrDead)
	looks(t, l, 2, 1, "s", "x")
	is(t, l.Sync(), api.ErrDead)
	is(t, l.Sync(), api.ErrState)
	looks(t, l, 2, 1, "s", "x")
}

// P6.3

func TestLooksOfNone(t *testing.T) {
	for _, l := range nones() {
		if l.Snapshot() != nil || records(l) != nil || l.Big() || l.Segment() != 0 || l.Size() != 0 || l.Len() != 0 || l.Synced() != 0 {
			t.Error("some of none")
		}
	}
}

func TestRecordsMayBeLeftAndGoneThroughAgain(t *testing.T) {
	l := holding(t, made(t, 999), "s", "x", "y", "z")
	all := l.Records()
	for n := range 4 {
		i := 0
		for b := range all {
			if string(b) != []string{"x", "y", "z"}[i] {
				t.Errorf("%d: %q", i, b)
			}
			if i++; i >= n {
				break
			}
		}
	}
	for range 2 {
		if got := slices.Collect(all); len(got) != 3 {
			t.Errorf("%q", got)
		}
	}
}

// They are as they were when they were asked for.
func TestRecordsOfThen(t *testing.T) {
	d := made(t, 9999)
	l := holding(t, d, "s", "x", "y")
	then := l.Records()
	for range 20 {
		is(t, l.Append([]byte("more")), api.OK)
	}
	var got []string
	for b := range then {
		got = append(got, string(b))
		is(t, l.Append([]byte("yet more")), api.OK)
	}
	if !slices.Equal(got, []string{"x", "y"}) {
		t.Errorf("%q", got)
	}
	later := l.Records()
	is(t, l.Turn([]byte("t")), api.OK)
	is(t, l.Append([]byte("new")), api.OK)
	if n := len(slices.Collect(later)); n != 24 {
		t.Error(n)
	}
	if n := len(slices.Collect(then)); n != 2 {
		t.Error(n)
	}
	looks(t, l, 3, 0, "t", "new")
}

func TestBig(t *testing.T) {
	for _, most := range []int{1, 7, 8, 9, 15, 16, 17, 30} {
		l, code := wal.Open(made(t, 999), "a", most)
		is(t, code, api.OK)
		for range 4 {
			if l.Big() != (l.Size() > most) {
				t.Error(most, l.Size(), l.Big())
			}
			is(t, l.Append(nil), api.OK)
		}
		if l.Size() != 40 || !l.Big() {
			t.Error(most, l.Size(), l.Big())
		}
		is(t, l.Turn(nil), api.OK)
		if l.Size() != 8 || l.Big() != (most < 8) {
			t.Error(most, l.Size(), l.Big())
		}
	}
}

// What is handed in stays the caller's, and what is answered is.
func TestMemoryIsNotShared(t *testing.T) {
	d := made(t, 999)
	l := opened(t, d, "a")
	s, x := []byte("snap"), []byte("xyz")
	is(t, l.Turn(s), api.OK)
	is(t, l.Append(x), api.OK)
	if string(s) != "snap" || string(x) != "xyz" {
		t.Error("what was handed in changed")
	}
	for range 2 {
		clear(s)
		clear(x)
		looks(t, l, 2, 0, "snap", "xyz")
		s = l.Snapshot()
		for b := range l.Records() {
			x = b
			_ = append(b, "behind it"...)
		}
		_ = append(s, "behind it"...)
	}
	is(t, l.Append([]byte("u")), api.OK)
	for range 2 {
		looks(t, l, 2, l.Synced(), "snap", "xyz", "u")
		l = opened(t, d, "a")
		clear(l.Snapshot())
		for b := range l.Records() {
			clear(append(b, 1, 2, 3))
		}
	}
	if b, _ := d.Read("a.2"); !bytes.Equal(b, []byte(bytesOf(t, "snap", "xyz", "u"))) {
		t.Errorf("%q", b)
	}
}
