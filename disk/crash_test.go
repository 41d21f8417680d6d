package disk_test

import (
	"math"
	"slices"
	"testing"

	"minster/api"
)

// The chapter's examples, in turn. The disk stays as it is behind a Crash: so
// the first line's last look, and the second line, are of it.
func TestExamples(t *testing.T) {
	d := made(t, 9)
	is(t, d.Append("a", []byte("xyz")), api.OK)
	is(t, d.Sync("a"), api.OK)
	is(t, d.Append("a", []byte("uv")), api.OK)
	if b, _ := d.Crash(1).Read("a"); string(b) != "xyzu" {
		t.Errorf("%q", b)
	}
	if n, _ := d.Lasts("a"); n != 3 {
		t.Error(n)
	}
	d.Fuse(1)
	is(t, d.Rename("a", "b"), api.OK)
	is(t, d.Append("b", []byte("w")), api.ErrDead)
	if b, _ := d.Read("b"); string(b) != "xyzuvw" {
		t.Errorf("%q", b)
	}
	is(t, d.Cut("b", 0), api.ErrDead)
	is(t, d.Append("B", []byte("x")), api.ErrArg)
	is(t, d.Append("b", make([]byte, 99)), api.ErrFull)
	_, code := d.Read("c")
	is(t, code, api.ErrNone)
}

// P5.4

func TestCrash(t *testing.T) {
	for i, x := range []struct {
		keep    []int
		a, c, e string
	}{
		{nil, "x", "", "uvw"},
		{[]int{}, "x", "", "uvw"},
		{[]int{0}, "x", "", "uvw"},
		{[]int{1}, "xy", "", "uvw"},
		{[]int{2}, "xyz", "", "uvw"},
		{[]int{3}, "x", "", "uvw"},
		{[]int{4}, "xy", "", "uvw"},
		{[]int{302}, "xyz", "", "uvw"},
		{[]int{-1}, "x", "", "uvw"},
		{[]int{-2, 1}, "x", "1", "uvw"},
		{[]int{math.MinInt, 4}, "x", "1234", "uvw"},
		{[]int{0, 5}, "x", "", "uvw"},
		{[]int{2, 7}, "xyz", "12", "uvw"},
		{[]int{0, 0, 1}, "x", "", "uvwp"},
		{[]int{1, 2, 3}, "xy", "12", "uvwp"},
		{[]int{1, -3, 2}, "xy", "", "uvw"},
		{[]int{5, 4, 9, 9, 9}, "xyz", "1234", "uvwp"},
		{[]int{math.MaxInt, math.MaxInt, math.MaxInt}, "xy", "12", "uvwp"},
	} {
		a, b, c := one{"a", "xyz", 1}, one{"b", "gone", 4}, one{"c", "1234", 0}
		e, f := one{"e", "uvwp", 3}, one{"f", "", 0}
		d := of(t, 99, f, e, c, b, a)
		keep := slices.Clone(x.keep)
		has(t, d.Crash(keep...), one{"a", x.a, len(x.a)}, b, one{"c", x.c, len(x.c)}, one{"e", x.e, len(x.e)}, f)
		has(t, d, a, b, c, e, f)
		if !slices.Equal(keep, x.keep) {
			t.Error(keep)
		}
		if t.Failed() {
			t.Fatal(i, x.keep)
		}
	}
}

func TestCrashByGreatNumbers(t *testing.T) {
	for loose := range 20 {
		d := of(t, 99, one{"a", "xyz" + string(make([]byte, loose)), 3})
		for _, n := range []int{math.MaxInt, math.MaxInt - 1, math.MaxInt/2 + 1, loose + 1, loose, 20 * (loose + 1)} {
			got, _ := d.Crash(n).Lasts("a")
			if got != 3+n%(loose+1) {
				t.Error(loose, n, got)
			}
		}
	}
}

func TestCrashHasPower(t *testing.T) {
	d := of(t, 9, one{"a", "xyz", 1})
	d.Fuse(1)
	for _, dead := range []bool{false, true} {
		if dead {
			is(t, d.Append("a", nil), api.OK)
			is(t, d.Append("a", []byte("u")), api.ErrDead)
		}
		n := d.Writes()
		c := d.Crash(1)
		if c.Dead() || c.Writes() != 0 || c.Room() != 7 {
			t.Error(dead, c.Dead(), c.Writes(), c.Room())
		}
		for range 5 { // it has no fuse
			is(t, c.Append("a", []byte("1")), api.OK)
		}
		is(t, c.Sync("a"), api.OK)
		is(t, c.Append("a", []byte("123")), api.ErrFull)
		has(t, c, one{"a", "xy11111", 7})
		if c.Writes() != 6 || d.Writes() != n || d.Dead() != dead {
			t.Error(dead, c.Writes(), d.Writes(), d.Dead())
		}
		c.Fuse(0)
		is(t, c.Remove("a"), api.ErrDead)
	}
	has(t, d, one{"a", "xyzu", 1})
}

// What is written to one of both is not seen in the other one.
func TestCrashAndCopyGoOnApart(t *testing.T) {
	a, b := one{"a", "xyz123", 3}, one{"b", "uv", 2}
	for i := range 2 {
		d := of(t, 99, a, b)
		o, o1 := d.Crash(1), []one{{"a", "xyz1", 4}, b}
		if i == 1 {
			o, o1 = d.Copy(), []one{a, b}
		}
		has(t, o, o1...)
		is(t, o.Append("a", []byte("OO")), api.OK)
		is(t, o.Append("c", nil), api.OK)
		is(t, o.Cut("b", 1), api.OK)
		is(t, o.Append("b", []byte("O")), api.OK)
		has(t, d, a, b)
		is(t, o.Sync("a"), api.OK)
		is(t, o.Remove("b"), api.OK)
		has(t, d, a, b)
		has(t, o, one{"a", o1[0].bytes + "OO", len(o1[0].bytes) + 2}, one{"c", "", 0})
		is(t, d.Append("a", []byte("DDD")), api.OK)
		is(t, d.Cut("a", 1), api.OK)
		is(t, d.Append("a", []byte("DDDDDDD")), api.OK)
		is(t, d.Rename("b", "c"), api.OK)
		has(t, o, one{"a", o1[0].bytes + "OO", len(o1[0].bytes) + 2}, one{"c", "", 0})
		has(t, d, one{"a", "xDDDDDDD", 1}, one{"c", "uv", 2})
	}
}

func TestCopy(t *testing.T) {
	a, b := one{"a", "xyz", 1}, one{"b", "", 0}
	d := of(t, 9, a, b)
	d.Fuse(2)
	c := d.Copy()
	has(t, c, a, b)
	if c.Writes() != d.Writes() || c.Dead() || c.Room() != 6 {
		t.Error(c.Writes(), c.Dead(), c.Room())
	}
	n := d.Writes()
	for range 2 {
		is(t, c.Append("a", []byte("u")), api.OK)
	}
	is(t, c.Append("a", []byte("v")), api.ErrDead)
	if !c.Dead() || c.Writes() != n+3 || d.Dead() || d.Writes() != n {
		t.Error(c.Dead(), c.Writes(), d.Dead(), d.Writes())
	}
	has(t, d, a, b)
	dead := c.Copy()
	if !dead.Dead() || dead.Writes() != n+3 {
		t.Error(dead.Dead(), dead.Writes())
	}
	is(t, dead.Sync("a"), api.ErrDead)
	has(t, dead, one{"a", "xyzuuv", 1}, b)
	for range 2 { // the fuse of d was not shortened by c's writes
		is(t, d.Sync("a"), api.OK)
	}
	is(t, d.Sync("a"), api.ErrDead)
	full := of(t, 9, a).Copy()
	is(t, full.Append("a", make([]byte, 7)), api.ErrFull)
	is(t, full.Append("a", make([]byte, 6)), api.OK)
}

func TestSame(t *testing.T) {
	a, b, c := one{"a", "xyz", 1}, one{"b", "uv", 2}, one{"c", "", 0}
	d := of(t, 99, a, b, c)
	if !d.Same(d) || !d.Same(of(t, 99, c, b, a)) || !made(t, 5).Same(made(t, 5)) {
		t.Error("not the same")
	}
	for i, x := range []struct {
		capacity int
		files    []one
	}{
		{98, []one{a, b, c}},
		{100, []one{a, b, c}},
		{99, nil},
		{99, []one{a, b}},
		{99, []one{b, c}},
		{99, []one{a, b, c, {"d", "", 0}}},
		{99, []one{{"0", "", 0}, a, b, c}},
		{99, []one{a, b, {"d", "", 0}}},
		{99, []one{{"0", "xyz", 1}, b, c}},
		{99, []one{a, {"b", "uw", 2}, c}},
		{99, []one{a, {"b", "xv", 2}, c}},
		{99, []one{a, {"b", "u", 1}, c}},
		{99, []one{a, {"b", "uvw", 2}, c}},
		{99, []one{{"a", "xyz", 0}, b, c}},
		{99, []one{{"a", "xyz", 2}, b, c}},
		{99, []one{{"a", "xyz", 3}, b, c}},
		{99, []one{{"a", "xyu", 1}, b, c}},
		{99, []one{a, b, {"c", "x", 0}}},
		{99, []one{{"a", "uv", 2}, {"b", "xyz", 1}, c}},
	} {
		o := of(t, x.capacity, x.files...)
		if d.Same(o) || o.Same(d) {
			t.Error(i, x)
		}
	}
}

// By what it was written, and whether it has power, is not asked.
func TestSameWhateverWasWritten(t *testing.T) {
	d, o := of(t, 99, one{"a", "xyz", 1}), of(t, 99, one{"a", "xyz", 1})
	is(t, d.Append("b", []byte("x")), api.OK)
	is(t, d.Remove("b"), api.OK)
	d.Fuse(7)
	if !d.Same(o) || !o.Same(d) {
		t.Error("with a fuse")
	}
	o.Fuse(0)
	is(t, o.Remove("a"), api.ErrDead)
	if !d.Same(o) || !o.Same(d) {
		t.Error("without power")
	}
	if d1, o1 := d.Copy(), o.Copy(); !d.Same(d1) || !o1.Same(o) || !d1.Same(o1) {
		t.Error("copies")
	}
}

func TestCrashCopySameOfNone(t *testing.T) {
	for _, d := range nones() {
		if d.Crash() != nil || d.Crash(1, 2) != nil || d.Copy() != nil {
			t.Error("some of none")
		}
		for _, o := range nones() {
			if !d.Same(o) {
				t.Error("nones are not the same")
			}
		}
		for _, o := range []one{{"a", "xyz", 1}, {"a", "", 0}} {
			if is := of(t, 9, o); d.Same(is) || is.Same(d) {
				t.Error(o)
			}
		}
		if is := made(t, 1); d.Same(is) || is.Same(d) {
			t.Error("the same as an empty one")
		}
	}
}
