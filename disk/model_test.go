package disk_test

import (
	"math/rand/v2"
	"slices"
	"strings"
	"testing"

	"minster/api"
	"minster/disk"
)

// cell is a byte, loose or not.
type cell struct {
	b     byte
	loose bool
}

// model is a disk just as the chapter's words have it, byte by byte.
type model struct {
	capacity int
	files    map[string][]cell
	fuse     int
	dead     bool
	writes   int
}

func (m *model) used() int {
	n := 0
	for _, l := range m.files {
		n += len(l)
	}
	return n
}

// power asks whether a write is done, and whether it is the fuse's end.
func (m *model) power() (done, end bool) {
	if m.dead {
		return false, false
	}
	m.writes++
	if m.fuse == 0 {
		m.dead = true
		return false, true
	}
	m.fuse--
	return true, false
}

// op is a write, with all that it may name.
type op struct {
	kind     int
	name, to string
	b        []byte
	n        int
}

func (m *model) refused(o op) api.Errno {
	_, is := m.files[o.name]
	switch {
	case !disk.MayName(o.name), o.kind == 2 && o.n < 0, o.kind == 3 && !disk.MayName(o.to):
		return api.ErrArg
	case o.kind != 0 && !is:
		return api.ErrNone
	case o.kind == 2 && o.n > len(m.files[o.name]):
		return api.ErrArg
	case o.kind == 0 && m.used()+len(o.b) > m.capacity, o.kind == 0 && !is && len(m.files) >= api.MaxFiles:
		return api.ErrFull
	}
	return api.OK
}

func (m *model) do(o op) api.Errno {
	if code := m.refused(o); code != api.OK {
		return code
	}
	done, end := m.power()
	if done || end && o.kind == 0 {
		m.change(o)
	}
	if !done {
		return api.ErrDead
	}
	return api.OK
}

func (m *model) change(o op) {
	l := m.files[o.name]
	switch o.kind {
	case 0:
		l = slices.Clone(l)
		for _, b := range o.b {
			l = append(l, cell{b, true})
		}
		m.files[o.name] = l
	case 1:
		l = slices.Clone(l)
		for i := range l {
			l[i].loose = false
		}
		m.files[o.name] = l
	case 2:
		m.files[o.name] = l[:o.n:o.n]
	case 3:
		delete(m.files, o.name)
		m.files[o.to] = l
	case 4:
		delete(m.files, o.name)
	}
}

func do(d *disk.Disk, o op) api.Errno {
	switch o.kind {
	case 0:
		return d.Append(o.name, o.b)
	case 1:
		return d.Sync(o.name)
	case 2:
		return d.Cut(o.name, o.n)
	case 3:
		return d.Rename(o.name, o.to)
	}
	return d.Remove(o.name)
}

func (m *model) names() []string {
	var l []string
	for name := range m.files {
		l = append(l, name)
	}
	slices.Sort(l)
	return l
}

// told is what a disk with the model's files tells of them.
func (m *model) told() []one {
	var l []one
	for _, name := range m.names() {
		f := one{name: name}
		for _, c := range m.files[name] {
			f.bytes += string([]byte{c.b})
			if !c.loose {
				f.lasts++
			}
		}
		l = append(l, f)
	}
	return l
}

func (m *model) crash(keep []int) *model {
	c := &model{capacity: m.capacity, files: map[string][]cell{}, fuse: -1}
	i := 0
	for _, name := range m.names() {
		var lasting, loose []cell
		for _, x := range m.files[name] {
			if x.loose {
				loose = append(loose, cell{x.b, false})
			} else {
				lasting = append(lasting, x)
			}
		}
		if len(loose) > 0 {
			k := 0
			if i < len(keep) && keep[i] > 0 {
				k = keep[i] % (len(loose) + 1)
			}
			loose = loose[:k]
			i++
		}
		c.files[name] = append(lasting, loose...)
	}
	return c
}

func (m *model) holds(t *testing.T, d *disk.Disk) {
	t.Helper()
	has(t, d, m.told()...)
	if d.Room() != m.capacity-m.used() || d.Dead() != m.dead || d.Writes() != m.writes {
		t.Fatal(d.Room(), d.Dead(), d.Writes(), m)
	}
}

// randomOp names few files, so that they meet, and what may not be at times.
func randomOp(g *rand.Rand) op {
	names := []string{"a", "b", "c", "d", "a.1", "a-1"}
	name := func() string {
		if g.IntN(30) == 0 {
			return []string{"", "A", strings.Repeat("a", 33)}[g.IntN(3)]
		}
		return names[g.IntN(len(names))]
	}
	b := make([]byte, g.IntN(5))
	for i := range b {
		b[i] = byte('a' + g.IntN(26))
	}
	return op{kind: max(g.IntN(8)-3, 0), name: name(), to: name(), b: b, n: g.IntN(12) - 1}
}

func randomKeep(g *rand.Rand) []int {
	keep := make([]int, g.IntN(8))
	for i := range keep {
		keep[i] = g.IntN(12) - 2
	}
	return keep
}

func TestRandomRuns(t *testing.T) {
	for seed := range uint64(300) {
		g := rand.New(rand.NewPCG(seed, 5))
		capacity := 1 + g.IntN(40)
		d, m := made(t, capacity), &model{capacity: capacity, files: map[string][]cell{}, fuse: -1}
		for range 200 {
			o := randomOp(g)
			is(t, do(d, o), m.do(o))
			m.holds(t, d)
			switch g.IntN(20) {
			case 0:
				n := g.IntN(40) - 5
				d.Fuse(n)
				if !m.dead {
					m.fuse = n
				}
			case 1:
				keep := randomKeep(g)
				c := d.Crash(keep...)
				m.holds(t, d)
				m = m.crash(keep)
				m.holds(t, c)
				d = c
			case 2:
				d = d.Copy()
			}
			if t.Failed() {
				t.Fatal(seed, o)
			}
		}
	}
}

// Many files: the names rise, and there are never more than may be.
func TestRandomRunsOfManyFiles(t *testing.T) {
	g := rand.New(rand.NewPCG(1, 2))
	d, m := made(t, 200), &model{capacity: 200, files: map[string][]cell{}, fuse: -1}
	for range 3000 {
		o := randomOp(g)
		o.name, o.to = names(80)[g.IntN(80)], names(80)[g.IntN(80)]
		if g.IntN(2) == 0 {
			o = op{name: o.name, b: o.b[:min(len(o.b), 1)]}
		}
		is(t, do(d, o), m.do(o))
		if l := sizes(d); len(l) > api.MaxFiles || !rising(l) {
			t.Fatal(len(l))
		}
	}
	m.holds(t, d)
}

// P5.5

// random is a disk behind some writes.
func random(t *testing.T, g *rand.Rand) *disk.Disk {
	d := made(t, 60)
	for range 25 {
		do(d, randomOp(g))
	}
	return d
}

func TestBehindSyncEachCrashHasTheWholeFile(t *testing.T) {
	for seed := range uint64(200) {
		g := rand.New(rand.NewPCG(seed, 6))
		d := random(t, g)
		for name := range d.Files() {
			o := d.Copy()
			is(t, o.Sync(name), api.OK)
			want, _ := d.Read(name)
			for range 5 {
				c := o.Crash(randomKeep(g)...)
				got, code := c.Read(name)
				n, _ := c.Lasts(name)
				if string(got) != string(want) || code != api.OK || n != len(want) {
					t.Fatalf("%s: %q, %d, not %q", name, got, n, want)
				}
			}
		}
	}
}

func TestCrashIsABeginning(t *testing.T) {
	for seed := range uint64(200) {
		g := rand.New(rand.NewPCG(seed, 7))
		d := random(t, g)
		for range 10 {
			c := d.Crash(randomKeep(g)...)
			if len(sizes(c)) != len(sizes(d)) {
				t.Fatal(sizes(c), sizes(d))
			}
			for name := range d.Files() {
				was, _ := d.Read(name)
				lasted, _ := d.Lasts(name)
				b, code := c.Read(name)
				n, _ := c.Lasts(name)
				if code != api.OK || !strings.HasPrefix(string(was), string(b)) || len(b) < lasted || n != len(b) {
					t.Fatalf("%s: %q of %q, of which %d lasted, %d last", name, b, was, lasted, n)
				}
			}
		}
	}
}

func TestCrashOfACrash(t *testing.T) {
	for seed := range uint64(200) {
		g := rand.New(rand.NewPCG(seed, 8))
		c := random(t, g).Crash(randomKeep(g)...)
		if o := c.Crash(randomKeep(g)...); !o.Same(c) || !c.Same(o) {
			t.Fatal(seed)
		}
	}
}
