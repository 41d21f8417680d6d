package wal_test

import (
	"fmt"
	"math/rand/v2"
	"slices"
	"strings"
	"testing"

	"minster/api"
	"minster/disk"
	"minster/wal"
)

// P6.5, and what a log is, and stands on the disk, where the power goes.

// file is one, and how many of its bytes last.
type file struct {
	name, bytes string
	lasts       int
}

func files(d *disk.Disk) []file {
	var l []file
	for name := range d.Files() {
		b, _ := d.Read(name)
		n, _ := d.Lasts(name)
		l = append(l, file{name, string(b), n})
	}
	return l
}

func TestPowerInAppend(t *testing.T) {
	was, is1 := bytesOf(t, "s", "x"), bytesOf(t, "s", "x", "torn")
	for keep := range len(is1) - len(was) + 1 {
		d := made(t, 999)
		l := holding(t, d, "s", "x")
		d.Fuse(0)
		is(t, l.Append([]byte("torn")), api.ErrDead)
		looks(t, l, 2, 1, "s", "x")
		if got := files(d); !slices.Equal(got, []file{{"a.2", is1, len(was)}}) {
			t.Errorf("%+v", got)
		}
		d = d.Crash(keep)
		l = opened(t, d, "a")
		if keep < len(is1)-len(was) {
			looks(t, l, 2, 1, "s", "x")
			stands(t, d, "a.2", was)
		} else {
			looks(t, l, 2, 2, "s", "x", "torn")
			stands(t, d, "a.2", is1)
		}
	}
}

func TestPowerInSync(t *testing.T) {
	for keep := range sizeOf("yz", "") + 1 {
		d := made(t, 999)
		l := holding(t, d, "s", "x")
		is(t, l.Append([]byte("yz")), api.OK)
		is(t, l.Append(nil), api.OK)
		d.Fuse(0)
		is(t, l.Sync(), api.ErrDead)
		looks(t, l, 2, 1, "s", "x", "yz", "")
		l = opened(t, d.Crash(keep), "a")
		switch {
		case keep < sizeOf("yz"):
			looks(t, l, 2, 1, "s", "x")
		case keep < sizeOf("yz", ""):
			looks(t, l, 2, 2, "s", "x", "yz")
		default:
			looks(t, l, 2, 3, "s", "x", "yz", "")
		}
	}
}

// The new segment is begun, and lasts, ahead of the elder one's end.
func TestPowerInTurn(t *testing.T) {
	elder, next := bytesOf(t, "s", "x"), bytesOf(t, "new")
	for fuse, x := range []struct {
		next  int // how many of the new segment's bytes last; below 0: it is not there
		elder bool
	}{{0, true}, {0, true}, {len(next), true}, {len(next), false}} {
		for keep := range len(next) + 1 {
			d := made(t, 999)
			l := holding(t, d, "s", "x")
			d.Fuse(fuse)
			code := l.Turn([]byte("new"))
			turned := fuse >= 2
			var want []file
			if x.elder {
				is(t, code, api.ErrDead)
				is(t, l.Turn([]byte("new")), api.ErrState)
				want = append(want, file{"a.2", elder, len(elder)})
			} else {
				is(t, code, api.OK)
			}
			if turned {
				looks(t, l, 3, 0, "new")
			} else {
				looks(t, l, 2, 1, "s", "x")
			}
			if got := files(d); !slices.Equal(got, append(want, file{"a.3", next, x.next})) {
				t.Errorf("%d: %+v", fuse, got)
			}
			if turned || keep == len(next) {
				looks(t, opened(t, d.Crash(keep), "a"), 3, 0, "new")
			} else {
				looks(t, opened(t, d.Crash(keep), "a"), 2, 1, "s", "x")
			}
		}
	}
}

// A file that is in the new segment's way is removed by a write of its own.
func TestPowerInTurnWhereAFileIsInTheWay(t *testing.T) {
	for fuse := range 5 {
		d := made(t, 999)
		l := holding(t, d, "s", "x")
		put(t, d, "a.3", "torn")
		d.Fuse(fuse)
		code := l.Turn([]byte("new"))
		if _, there := d.Read("a.3"); fuse == 0 && there != api.OK {
			t.Error("it was removed without power")
		}
		if fuse < 4 {
			is(t, code, api.ErrDead)
		} else {
			is(t, code, api.OK)
		}
		if fuse < 3 {
			looks(t, l, 2, 1, "s", "x")
			looks(t, opened(t, d.Crash(), "a"), 2, 1, "s", "x")
		} else {
			looks(t, l, 3, 0, "new")
			looks(t, opened(t, d.Crash(), "a"), 3, 0, "new")
		}
	}
}

// Cut, synced, and then the others removed by rising numbers.
func TestPowerInOpen(t *testing.T) {
	one, loose := bytesOf(t, "s", "x"), bytesOf(t, "y")
	all := []string{"a.2", "a.9", "a.10", "a.11"}
	for fuse := range 6 {
		d := made(t, 999)
		put(t, d, "a.9", bytesOf(t, "old"))
		put(t, d, "a.2", "torn")
		put(t, d, "a.11", "torn")
		put(t, d, "a.10", one)
		is(t, d.Append("a.10", []byte(loose)), api.OK)
		is(t, d.Append("a.10", []byte("torn")), api.OK)
		d.Fuse(fuse)
		l, code := wal.Open(d, "a", 99)
		if fuse < 5 {
			if l != nil || code != api.ErrDead {
				t.Error(fuse, l, code)
			}
		} else {
			is(t, code, api.OK)
			looks(t, l, 10, 2, "s", "x", "y")
		}
		want := map[string]bool{"a.10": true}
		for i, name := range slices.DeleteFunc(slices.Clone(all), func(s string) bool { return s == "a.10" }) {
			want[name] = i >= fuse-2
		}
		for _, name := range all {
			if _, code := d.Read(name); (code == api.OK) != want[name] {
				t.Error(fuse, name, code)
			}
		}
		b, _ := d.Read("a.10")
		n, _ := d.Lasts("a.10")
		if cut := fuse > 0; cut != (string(b) == one+loose) || (fuse > 1) != (n == len(b)) {
			t.Errorf("%d: %q, of which %d last", fuse, b, n)
		}
		l = opened(t, d.Crash(), "a")
		if fuse < 2 {
			looks(t, l, 10, 1, "s", "x")
		} else {
			looks(t, l, 10, 2, "s", "x", "y")
		}
	}
}

func TestPowerInTheFirstOpen(t *testing.T) {
	for fuse := range 4 {
		for keep := range 9 {
			d := made(t, 99)
			put(t, d, "a.3", "torn")
			d.Fuse(fuse)
			l, code := wal.Open(d, "a", 99)
			if fuse < 3 && (l != nil || code != api.ErrDead) || fuse == 3 && code != api.OK {
				t.Error(fuse, l, code)
			}
			c := d.Crash(keep)
			looks(t, opened(t, c, "a"), 1, 0, "")
			stands(t, c, "a.1", bytesOf(t, ""))
		}
	}
}

// state is what a log has.
type state struct {
	snapshot string
	records  []string
}

func (s state) with(b string) state {
	return state{s.snapshot, append(slices.Clone(s.records), b)}
}

func stateOf(l *wal.Log) state {
	return state{string(l.Snapshot()), records(l)}
}

func same(a, b state) bool {
	return a.snapshot == b.snapshot && slices.Equal(a.records, b.records)
}

// model has what a log is, and all that a loss of power may leave of it.
type model struct {
	now      state
	segment  int
	synced   int
	possible []state
}

func (m *model) append(b string, code api.Errno) {
	m.possible = append(m.possible, m.now.with(b)) // of no power it may stand there, too
	if code == api.OK {
		m.now = m.now.with(b)
	}
}

func (m *model) sync(code api.Errno) {
	if code == api.OK {
		m.synced, m.possible = len(m.now.records), []state{m.now}
	}
}

// turn: how many segments there are tells whether the power went at the last
// step of it.
func (m *model) turn(s string, code api.Errno, number int) {
	m.possible = append(m.possible, state{snapshot: s})
	if code == api.OK || number > m.segment {
		m.now, m.synced, m.segment = state{snapshot: s}, 0, m.segment+1
		m.possible = []state{m.now}
	}
}

func (m *model) holds(t *testing.T, l *wal.Log) {
	t.Helper()
	looks(t, l, m.segment, m.synced, m.now.snapshot, m.now.records...)
}

// reopened is a log behind losses of power, the first ones of them in the midst
// of its being opened.
func (m *model) reopened(t *testing.T, g *rand.Rand, d *disk.Disk) (*disk.Disk, *wal.Log) {
	t.Helper()
	for {
		keep := []int{g.IntN(60), g.IntN(60), g.IntN(60)}
		d = d.Crash(keep[:g.IntN(4)]...)
		d.Fuse(g.IntN(9) - 1)
		l, code := wal.Open(d, "a", 99)
		if code == api.ErrDead {
			continue
		}
		is(t, code, api.OK)
		d.Fuse(-1)
		got := stateOf(l)
		if !slices.ContainsFunc(m.possible, func(s state) bool { return same(s, got) }) {
			t.Fatalf("opened is %q, but it was one of %q", got, m.possible)
		}
		m.now, m.segment, m.synced, m.possible = got, l.Segment(), len(got.records), []state{got}
		m.holds(t, l)
		return d, l
	}
}

func randomBytes(g *rand.Rand) string {
	return strings.Repeat(string(rune('a'+g.IntN(26))), g.IntN(12))
}

// act does one call, and tells whether the power went.
func (m *model) act(t *testing.T, g *rand.Rand, l *wal.Log) bool {
	t.Helper()
	b, code := randomBytes(g), api.OK
	switch g.IntN(7) {
	case 0:
		code = l.Turn([]byte(b))
		m.turn(b, code, l.Segment())
	case 1, 2:
		code = l.Sync()
		m.sync(code)
	default:
		code = l.Append([]byte(b))
		m.append(b, code)
	}
	if code != api.OK && code != api.ErrDead {
		t.Fatal(code)
	}
	return code == api.ErrDead
}

func TestRandomLossesOfPower(t *testing.T) {
	for seed := range uint64(300) {
		g := rand.New(rand.NewPCG(seed, 60))
		d := made(t, 1<<16)
		put(t, d, "b.1", "other")
		m := &model{segment: 1, possible: []state{{}}}
		d, l := m.reopened(t, g, d)
		for range 20 {
			d.Fuse(g.IntN(15))
			for !m.act(t, g, l) {
				m.holds(t, l)
			}
			m.holds(t, l)
			is(t, l.Append(nil), api.ErrState)
			d, l = m.reopened(t, g, d)
			stands(t, d, fmt.Sprint("a.", m.segment), bytesOf(t, append([]string{m.now.snapshot}, m.now.records...)...), "b.1", "other")
			if t.Failed() {
				t.Fatal(seed)
			}
		}
	}
}

// The same where the room is small: what is refused for it changes nothing,
// and what was answered is still there.
func TestRandomRunsWithLittleRoom(t *testing.T) {
	refused := 0
	for seed := range uint64(200) {
		g := rand.New(rand.NewPCG(seed, 61))
		d := made(t, 40+g.IntN(60))
		m := &model{segment: 1, possible: []state{{}}}
		d, l := m.reopened(t, g, d)
		for range 60 {
			b, before := randomBytes(g), d.Copy()
			want, code := api.OK, api.OK
			if d.Room() < 8+len(b) {
				want = api.ErrFull
			}
			if g.IntN(4) == 0 {
				code = l.Turn([]byte(b))
				m.turn(b, code, l.Segment())
			} else {
				code = l.Append([]byte(b))
				m.append(b, code)
			}
			is(t, code, want)
			if code != api.OK {
				refused++
				if !d.Same(before) {
					t.Fatal("the disk changed")
				}
			}
			m.holds(t, l)
			looks(t, opened(t, d.Copy(), "a"), m.segment, len(m.now.records), m.now.snapshot, m.now.records...)
			if t.Failed() {
				t.Fatal(seed)
			}
		}
	}
	if refused == 0 {
		t.Error("there was always room")
	}
}
