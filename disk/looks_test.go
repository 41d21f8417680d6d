package disk_test

import (
	"math"
	"slices"
	"strings"
	"testing"

	"minster/api"
	"minster/disk"
)

// P5.3

func TestReadAndLasts(t *testing.T) {
	d := of(t, 99, one{"a", "xyz", 1}, one{"b", "", 0})
	for _, dead := range []bool{false, true} {
		if dead {
			d.Fuse(0)
			is(t, d.Sync("a"), api.ErrDead)
		}
		has(t, d, one{"a", "xyz", 1}, one{"b", "", 0})
		for _, name := range append(notNames(), "c", "aa", strings.Repeat("z", 32)) {
			want := api.ErrArg
			if disk.MayName(name) {
				want = api.ErrNone
			}
			if b, code := d.Read(name); b != nil || code != want {
				t.Errorf("Read %q: %q, %d", name, b, code)
			}
			if n, code := d.Lasts(name); n != 0 || code != want {
				t.Errorf("Lasts %q: %d, %d", name, n, code)
			}
		}
	}
}

func TestWhatIsReadIsTheCallers(t *testing.T) {
	d := of(t, 99, one{"a", "xyz", 1})
	b, _ := d.Read("a")
	c, _ := d.Read("a")
	copy(b, "123")
	_ = append(b[:2], "45678"...)
	has(t, d, one{"a", "xyz", 1})
	if string(c) != "xyz" {
		t.Errorf("%q", c)
	}
	is(t, d.Cut("a", 0), api.OK)
	is(t, d.Append("a", []byte("uvw")), api.OK)
	if string(c) != "xyz" {
		t.Errorf("%q", c)
	}
}

func TestFiles(t *testing.T) {
	d := made(t, 9999)
	for _, i := range []int{3, 0, 2, 1} {
		is(t, d.Append([]string{"-", ".", "0", "a"}[i], make([]byte, i)), api.OK)
	}
	for _, name := range []string{"ab", "z", "a.b", "a-b", "a0", "aa", "10", "9"} {
		is(t, d.Append(name, []byte(name)), api.OK)
	}
	want := []size{{"-", 0}, {".", 1}, {"0", 2}, {"10", 2}, {"9", 1}, {"a", 3}, {"a-b", 3}, {"a.b", 3}, {"a0", 2}, {"aa", 2}, {"ab", 2}, {"z", 1}}
	for range 20 {
		if got := sizes(d); !slices.Equal(got, want) {
			t.Fatal(got)
		}
	}
}

func TestFilesMayBeLeft(t *testing.T) {
	d := of(t, 99, one{"a", "x", 0}, one{"b", "", 0}, one{"c", "xyz", 2})
	files := d.Files()
	for stop := range 4 {
		var l []string
		for name := range files {
			if len(l) == stop {
				break
			}
			l = append(l, name)
		}
		if !slices.Equal(l, []string{"a", "b", "c"}[:stop]) {
			t.Error(stop, l)
		}
	}
	for name := range files { // one within the other
		n := 0
		for range files {
			n++
		}
		if n != 3 {
			t.Error(name, n)
		}
	}
}

func TestFilesAreAsTheyWere(t *testing.T) {
	d := of(t, 99, one{"a", "x", 0}, one{"b", "", 0}, one{"c", "xyz", 2})
	want := []size{{"a", 1}, {"b", 0}, {"c", 3}}
	files := d.Files()
	is(t, d.Append("a", []byte("y")), api.OK)
	is(t, d.Append("aa", []byte("y")), api.OK)
	is(t, d.Remove("b"), api.OK)
	is(t, d.Cut("c", 1), api.OK)
	is(t, d.Rename("c", "d"), api.OK)
	if got := gone(files); !slices.Equal(got, want) {
		t.Error(got)
	}
	if got := gone(d.Files()); !slices.Equal(got, []size{{"a", 2}, {"aa", 1}, {"d", 1}}) {
		t.Error(got)
	}
	for name := range d.Files() { // what is gone over may be written
		is(t, d.Remove(name), api.OK)
	}
	has(t, d)
	if got := gone(files); !slices.Equal(got, want) {
		t.Error(got)
	}
}

func TestRoom(t *testing.T) {
	d := made(t, 9)
	for _, x := range []struct {
		do   func() api.Errno
		room int
	}{
		{func() api.Errno { return d.Append("a", []byte("xyz")) }, 6},
		{func() api.Errno { return d.Append("b", []byte("uvwxy")) }, 1},
		{func() api.Errno { return d.Append("c", nil) }, 1},
		{func() api.Errno { return d.Sync("a") }, 1},
		{func() api.Errno { return d.Append("a", []byte("1")) }, 0},
		{func() api.Errno { return d.Cut("b", 2) }, 3},
		{func() api.Errno { return d.Rename("a", "d") }, 3},
		{func() api.Errno { return d.Rename("b", "b") }, 3},
		{func() api.Errno { return d.Rename("b", "d") }, 7},
		{func() api.Errno { return d.Remove("d") }, 9},
	} {
		is(t, x.do(), api.OK)
		if d.Room() != x.room {
			t.Error(d.Room(), x.room)
		}
	}
}

func TestFuse(t *testing.T) {
	for n := range 12 {
		d := of(t, 99, one{"a", "x", 1})
		from := d.Writes()
		d.Fuse(n)
		for i := range n {
			is(t, d.Append("a", []byte("y")), api.OK)
			if d.Dead() || d.Writes() != from+i+1 {
				t.Fatal(n, i, d.Dead(), d.Writes())
			}
		}
		has(t, d, one{"a", "x" + strings.Repeat("y", n), 1})
		for range 3 {
			is(t, d.Sync("a"), api.ErrDead)
			if !d.Dead() || d.Writes() != from+n+1 {
				t.Fatal(n, d.Dead(), d.Writes())
			}
		}
		has(t, d, one{"a", "x" + strings.Repeat("y", n), 1})
	}
}

// Each write, at each place ahead of the fuse's end, and at it.
func TestFuseOfEachWrite(t *testing.T) {
	a, b := one{"a", "xyz", 1}, one{"b", "uv", 2}
	after := map[string][]one{
		"Append": {{"a", "xyzx", 1}, b},
		"Sync":   {{"a", "xyz", 3}, b},
		"Cut":    {{"a", "", 0}, b},
		"Rename": {b, {"other", "xyz", 1}},
		"Remove": {b},
	}
	for _, w := range writes() {
		for _, fuse := range []int{-1, 0, 1, 2} {
			d := of(t, 99, a, b)
			n := d.Writes()
			d.Fuse(fuse)
			want, left := api.OK, after[w.name]
			if fuse == 0 {
				want = api.ErrDead
				if w.name != "Append" {
					left = []one{a, b}
				}
			}
			is(t, w.do(d, "a"), want)
			has(t, d, left...)
			if d.Writes() != n+1 || d.Dead() != (fuse == 0) {
				t.Error(w.name, fuse, d.Writes(), d.Dead())
			}
			switch fuse {
			case -1:
				want = api.OK
			case 0, 1:
				want = api.ErrDead
			}
			is(t, d.Sync("b"), want)
			if t.Failed() {
				t.Fatal(w.name, fuse)
			}
		}
	}
}

func TestWritesWithoutPower(t *testing.T) {
	a, b := one{"a", "xyz", 1}, one{"b", "uv", 0}
	d := of(t, 99, a, b)
	d.Fuse(0)
	is(t, d.Remove("a"), api.ErrDead)
	n := d.Writes()
	for _, w := range writes() {
		is(t, w.do(d, "a"), api.ErrDead)
	}
	is(t, d.Append("c", []byte("x")), api.ErrDead)
	is(t, d.Append("c", nil), api.ErrDead)
	is(t, d.Append("a", nil), api.ErrDead)
	is(t, d.Rename("a", "b"), api.ErrDead)
	is(t, d.Rename("a", "a"), api.ErrDead)
	has(t, d, a, b)
	if d.Writes() != n || !d.Dead() || d.Room() != 94 {
		t.Error(d.Writes(), n, d.Dead(), d.Room())
	}
}

// What is appended at the fuse's end is there, in a file that is made, too.
func TestAppendAtTheFusesEnd(t *testing.T) {
	d := of(t, 9, one{"b", "xyz", 3})
	o := d.Copy()
	d.Fuse(0)
	is(t, d.Append("b", []byte("uvw")), api.ErrDead)
	has(t, d, one{"b", "xyzuvw", 3})
	has(t, d.Crash(2), one{"b", "xyzuv", 5})
	is(t, d.Append("b", []byte("12")), api.ErrDead)
	has(t, d, one{"b", "xyzuvw", 3})
	o.Fuse(0)
	is(t, o.Append("a", []byte("uvw")), api.ErrDead)
	has(t, o, one{"a", "uvw", 0}, one{"b", "xyz", 3})
	has(t, o.Crash(1), one{"a", "u", 1}, one{"b", "xyz", 3})
	has(t, o.Crash(), one{"a", "", 0}, one{"b", "xyz", 3})
	is(t, o.Append("c", []byte("12")), api.ErrDead)
	has(t, o, one{"a", "uvw", 0}, one{"b", "xyz", 3})
}

func TestFuseInThePlaceOfAnother(t *testing.T) {
	d := made(t, 99)
	add := func(want api.Errno) {
		t.Helper()
		is(t, d.Append("a", []byte("x")), want)
	}
	d.Fuse(1)
	add(api.OK)
	d.Fuse(2)
	add(api.OK)
	d.Fuse(2)
	add(api.OK)
	add(api.OK)
	for _, none := range []int{-1, -2, math.MinInt} {
		d.Fuse(0)
		d.Fuse(none)
		for range 5 {
			add(api.OK)
		}
	}
	d.Fuse(math.MaxInt)
	add(api.OK)
	d.Fuse(0)
	add(api.ErrDead)
	for _, n := range []int{-1, 0, 5} { // nothing brings the power back
		d.Fuse(n)
		if !d.Dead() {
			t.Error(n)
		}
		add(api.ErrDead)
	}
	has(t, d, one{"a", strings.Repeat("x", 21), 0})
	if d.Writes() != 21 {
		t.Error(d.Writes())
	}
}

func TestWrites(t *testing.T) {
	d := made(t, 99)
	for i, code := range []api.Errno{
		d.Append("a", nil), d.Append("a", []byte("x")), d.Sync("a"), d.Sync("a"), d.Cut("a", 1), d.Cut("a", 0),
		d.Rename("a", "b"), d.Rename("b", "b"), d.Remove("b"),
	} {
		if code != api.OK {
			t.Error(i, code)
		}
	}
	if d.Writes() != 9 {
		t.Error(d.Writes())
	}
	d.Read("a")
	d.Lasts("a")
	d.Files()
	d.Room()
	d.Fuse(3)
	d.Crash()
	d.Copy()
	d.Same(d)
	if d.Writes() != 9 {
		t.Error(d.Writes())
	}
}

func TestLooksOfNone(t *testing.T) {
	for _, d := range nones() {
		for _, name := range []string{"a", "A", ""} {
			if b, code := d.Read(name); b != nil || code != api.ErrNil {
				t.Error(b, code)
			}
			if n, code := d.Lasts(name); n != 0 || code != api.ErrNil {
				t.Error(n, code)
			}
		}
		for _, n := range []int{-1, 0, 3} {
			d.Fuse(n)
			is(t, d.Append("a", nil), api.ErrNil)
			if len(sizes(d)) != 0 || d.Room() != 0 || d.Dead() || d.Writes() != 0 {
				t.Error(sizes(d), d.Room(), d.Dead(), d.Writes())
			}
		}
	}
}
