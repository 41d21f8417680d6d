package ctx_test

import (
	"math/rand/v2"
	"slices"
	"testing"

	"minster/api"
	"minster/ctx"
)

// join is a joined with b, both of which stay as they are.
func join(t *testing.T, a, b *ctx.Ctx) *ctx.Ctx {
	t.Helper()
	c := a.Copy()
	if code := c.Join(b); code != api.OK {
		t.Fatal(code)
	}
	return c
}

// P4.3

func TestJoin(t *testing.T) {
	for i, x := range []struct {
		a, b  []api.Dot
		v     api.Vector
		extra []api.Dot
	}{
		{nil, nil, vector(), nil},
		{nil, []api.Dot{dot(1, 1), dot(1, 3)}, vector(1), []api.Dot{dot(1, 3)}},
		{[]api.Dot{dot(1, 1), dot(1, 3)}, []api.Dot{dot(1, 2)}, vector(3), nil},
		{[]api.Dot{dot(1, 1), dot(1, 3)}, []api.Dot{dot(1, 5)}, vector(1), []api.Dot{dot(1, 3), dot(1, 5)}},
		{[]api.Dot{dot(1, 1), dot(1, 5)}, []api.Dot{dot(1, 1), dot(1, 2), dot(1, 3)}, vector(3), []api.Dot{dot(1, 5)}},
		{[]api.Dot{dot(1, 1), dot(1, 4)}, []api.Dot{dot(1, 1), dot(1, 2), dot(1, 3)}, vector(4), nil},
		{[]api.Dot{dot(1, 2), dot(1, 4)}, []api.Dot{dot(1, 1), dot(1, 3), dot(1, 6)}, vector(4), []api.Dot{dot(1, 6)}},
		{[]api.Dot{dot(2, 2), dot(16, 4)}, []api.Dot{dot(2, 2), dot(3, 1), dot(16, 4)}, vector(0, 0, 1), []api.Dot{dot(2, 2), dot(16, 4)}},
		{[]api.Dot{dot(2, 1), dot(2, 2)}, []api.Dot{dot(1, 2), dot(2, 3)}, vector(0, 3), []api.Dot{dot(1, 2)}},
	} {
		a, b := of(t, x.a...), of(t, x.b...)
		has(t, join(t, a, b), x.v, x.extra...)
		has(t, join(t, b, a), x.v, x.extra...)
		modelOf(append(x.a, x.b...)...).holds(t, join(t, a, b))
		if t.Failed() {
			t.Fatal(i)
		}
	}
}

// Joins of great counts: nothing goes over them one by one.
func TestJoinOfGreatCounts(t *testing.T) {
	a := made(t, vector(1<<62-2, 5), []api.Dot{dot(1, 1<<62)})
	b := made(t, vector(1<<61, 1<<62), []api.Dot{dot(1, 1<<62-1), dot(3, 2)})
	has(t, join(t, a, b), vector(1<<62, 1<<62), dot(3, 2))
	if a.Covers(b) || b.Covers(a) || !join(t, a, b).Covers(a) || !join(t, b, a).Covers(b) {
		t.Error("Covers")
	}
}

func TestJoinWhereExceptionsHaveNoRoom(t *testing.T) {
	extra := gaps(2, 3, api.MaxExtra)
	a, b := made(t, vector(5), extra), of(t, dot(1, 1), dot(1, 9), dot(3, 1), dot(3, 3))
	a1, b1 := a.Copy(), b.Copy()
	if code := a.Join(b); code != api.ErrFull || !a.Same(a1) || !b.Same(b1) {
		t.Error(code)
	}
	if code := b.Join(a); code != api.ErrFull || !a.Same(a1) || !b.Same(b1) {
		t.Error(code)
	}
	has(t, a, vector(5), extra...)
	has(t, b, vector(1, 0, 1), dot(1, 9), dot(3, 3))
}

// What was added dot by dot may have memory to spare, in which a join that is
// refused must not leave anything.
func TestRefusedJoinOfWhatWasAdded(t *testing.T) {
	for n := api.MaxExtra - 40; n < api.MaxExtra; n++ {
		extra := gaps(9, 2, n)
		c, o := of(t, extra...), made(t, vector(), gaps(1, 2, api.MaxExtra-n+1))
		if code := c.Join(o); code != api.ErrFull {
			t.Error(n, code)
		}
		has(t, c, vector(), extra...)
		has(t, o, vector(), gaps(1, 2, api.MaxExtra-n+1)...)
	}
}

// What counts is how many exceptions both together have: not those that are
// in both, nor those that the other one's fill up.
func TestJoinThatNeedsNoMoreRoom(t *testing.T) {
	extra := gaps(2, 3, api.MaxExtra)
	full := made(t, vector(5), extra)
	has(t, join(t, full, full), vector(5), extra...)
	has(t, join(t, full, made(t, vector(5), extra)), vector(5), extra...)
	has(t, join(t, full, made(t, vector(9, 1), extra[5:])), vector(9, 1), extra...)
	has(t, join(t, full, made(t, vector(0, 2, 1), []api.Dot{dot(4, 4)})), vector(5, 3, 1), append(slices.Clone(extra[1:]), dot(4, 4))...)
	other := made(t, vector(), gaps(2, 2, api.MaxExtra))
	if code := full.Copy().Join(other); code != api.ErrFull {
		t.Error(code)
	}
	other.Add(dot(2, 1))
	has(t, join(t, full, other), vector(5, 2*api.MaxExtra+1))
	half := gaps(2, 3, api.MaxExtra/2)
	rest := gaps(9, 2, api.MaxExtra/2)
	has(t, join(t, made(t, vector(), half), made(t, vector(), rest)), vector(), append(half, rest...)...)
	rest = gaps(9, 2, api.MaxExtra/2+1)
	if code := made(t, vector(), half).Join(made(t, vector(), rest)); code != api.ErrFull {
		t.Error(code)
	}
}

func TestJoinOfItself(t *testing.T) {
	c := of(t, dot(1, 1), dot(1, 3), dot(2, 2))
	if code := c.Join(c); code != api.OK {
		t.Error(code)
	}
	has(t, c, vector(1), dot(1, 3), dot(2, 2))
}

// A join leaves the other one as it is, and both go on apart.
func TestJoinLeavesTheOtherOne(t *testing.T) {
	a, b := of(t, dot(1, 2)), of(t, dot(1, 4), dot(2, 1), dot(3, 3))
	if code := a.Join(b); code != api.OK {
		t.Error(code)
	}
	has(t, b, vector(0, 1), dot(1, 4), dot(3, 3))
	a.Add(dot(1, 1))
	a.Add(dot(1, 3))
	b.Add(dot(1, 6))
	has(t, a, vector(4, 1), dot(3, 3))
	has(t, b, vector(0, 1), dot(1, 4), dot(1, 6), dot(3, 3))
	empty := ctx.New()
	empty.Join(b)
	empty.Add(dot(1, 5))
	empty.Add(dot(3, 1))
	b.Add(dot(3, 2))
	has(t, empty, vector(0, 1, 1), dot(1, 4), dot(1, 5), dot(1, 6), dot(3, 3))
	has(t, b, vector(0, 1), dot(1, 4), dot(1, 6), dot(3, 2), dot(3, 3))
}

func TestCovers(t *testing.T) {
	c := made(t, vector(3, 0, 1), []api.Dot{dot(1, 5), dot(1, 6), dot(2, 2)})
	for i, x := range []struct {
		v     api.Vector
		extra []api.Dot
		yes   bool
	}{
		{vector(), nil, true},
		{vector(3, 0, 1), []api.Dot{dot(1, 5), dot(1, 6), dot(2, 2)}, true},
		{vector(3), nil, true},
		{vector(2), nil, true},
		{vector(4), nil, false},
		{vector(6), nil, false},
		{vector(0, 1), nil, false},
		{vector(0, 0, 0, 1), nil, false},
		{vector(1), []api.Dot{dot(1, 3)}, true},
		{vector(1), []api.Dot{dot(1, 3), dot(1, 6), dot(2, 2)}, true},
		{vector(1), []api.Dot{dot(1, 4)}, false},
		{vector(), []api.Dot{dot(1, 2), dot(2, 3)}, false},
		{vector(3), []api.Dot{dot(1, 5), dot(1, 6), dot(1, 7)}, false},
		{vector(3, 0, 1), []api.Dot{dot(16, 2)}, false},
	} {
		if got := c.Covers(made(t, x.v, x.extra)); got != x.yes {
			t.Error(i, got)
		}
	}
	if !ctx.New().Covers(ctx.New()) || ctx.New().Covers(c) || !c.Covers(c) {
		t.Error("New")
	}
}

func TestSame(t *testing.T) {
	l := []*ctx.Ctx{
		ctx.New(), of(t, dot(1, 1)), of(t, dot(2, 1)), of(t, dot(1, 1), dot(1, 2)), of(t, dot(1, 2)), of(t, dot(1, 3)), of(t, dot(2, 2)),
		of(t, dot(1, 2), dot(1, 3)), of(t, dot(1, 1), dot(1, 3)), of(t, dot(1, 1), dot(16, 3)), of(t, dot(1, 2), dot(16, 1)),
	}
	for i, a := range l {
		for j, b := range l {
			if got := a.Same(b); got != (i == j) {
				t.Error(i, j, got)
			}
			if got := a.Same(b.Copy()); got != (i == j) {
				t.Error(i, j, "a copy", got)
			}
		}
	}
	empty := made(t, api.Vector{}, []api.Dot{})
	if !empty.Same(ctx.New()) || !ctx.New().Same(empty) {
		t.Error("no exceptions, nil ones")
	}
}

func TestCopyGoesOnApart(t *testing.T) {
	c := of(t, dot(1, 1), dot(1, 3), dot(1, 5), dot(2, 2))
	d := c.Copy()
	if d == c || !d.Same(c) {
		t.Error("a copy")
	}
	d.Add(dot(1, 2))
	d.Add(dot(1, 9))
	has(t, c, vector(1), dot(1, 3), dot(1, 5), dot(2, 2))
	c.Add(dot(2, 4))
	c.Add(dot(1, 7))
	has(t, d, vector(3), dot(1, 5), dot(1, 9), dot(2, 2))
	has(t, c, vector(1), dot(1, 3), dot(1, 5), dot(1, 7), dot(2, 2), dot(2, 4))
	e := ctx.New().Copy()
	if fresh, code := e.Add(dot(1, 1)); !fresh || code != api.OK {
		t.Error("a copy of a new one", fresh, code)
	}
}

// However much memory is to spare, two do not write into the same.
func TestCopiesOfEachLength(t *testing.T) {
	for n := range 40 {
		extra := gaps(9, 2, n)
		c := of(t, extra...)
		d := c.Copy()
		c.Add(dot(1, 2))
		d.Add(dot(2, 2))
		has(t, c, vector(), append([]api.Dot{dot(1, 2)}, extra...)...)
		has(t, d, vector(), append([]api.Dot{dot(2, 2)}, extra...)...)
	}
}

// Nil ones, and zero ones: ErrNil is ahead of all other errors.
func TestNil(t *testing.T) {
	for i, c := range nones() {
		for _, d := range append(notDots(), dot(1, 1)) {
			if fresh, code := c.Add(d); fresh || code != api.ErrNil {
				t.Error(i, d, fresh, code)
			}
			if c.Has(d) {
				t.Error(i, d)
			}
		}
		for _, region := range []int{0, 1, 16, 17} {
			if n, code := c.Next(region); n != 0 || code != api.ErrNil {
				t.Error(i, region, n, code)
			}
		}
		if c.Vector() != (api.Vector{}) || len(c.Extra()) != 0 || c.Copy() != nil {
			t.Error(i, c.Vector(), c.Extra(), c.Copy())
		}
		if code := c.Join(of(t, dot(1, 1))); code != api.ErrNil {
			t.Error(i, code)
		}
		if c.Has(dot(1, 1)) || c.Copy() != nil {
			t.Error(i, "something was joined")
		}
	}
}

func TestTheOtherOneIsNil(t *testing.T) {
	some, empty := of(t, dot(1, 1), dot(1, 3)), ctx.New()
	for i, c := range nones() {
		for _, o := range []*ctx.Ctx{some, empty, made(t, api.Vector{}, gaps(1, 2, api.MaxExtra))} {
			before := o.Copy()
			if code := o.Join(c); code != api.ErrNil || !o.Same(before) {
				t.Error(i, code)
			}
			if !o.Covers(c) || o.Same(c) || c.Same(o) {
				t.Error(i, o.Covers(c), o.Same(c), c.Same(o))
			}
		}
		if c.Covers(some) || !c.Covers(empty) || c.Covers(of(t, dot(9, 9))) {
			t.Error(i, c.Covers(some), c.Covers(empty))
		}
		for j, o := range nones() {
			if code := c.Join(o); code != api.ErrNil || !c.Covers(o) || !c.Same(o) {
				t.Error(i, j, code, c.Covers(o), c.Same(o))
			}
		}
	}
}

// P4.4

func TestJoinsInAnyOrder(t *testing.T) {
	g := rand.New(rand.NewPCG(4, 3))
	for range 500 {
		la, lb, lc := randomDots(g, g.IntN(20)), randomDots(g, g.IntN(20)), randomDots(g, g.IntN(20))
		a, b, c := of(t, la...), of(t, lb...), of(t, lc...)
		ab := join(t, a, b)
		if !ab.Same(join(t, b, a)) {
			t.Fatal("not commutative", la, lb)
		}
		if !join(t, ab, c).Same(join(t, a, join(t, b, c))) {
			t.Fatal("not associative", la, lb, lc)
		}
		if !join(t, a, a).Same(a) || !join(t, ab, b).Same(ab) || !join(t, ab, ab).Same(ab) {
			t.Fatal("not idempotent", la, lb)
		}
		if !ab.Covers(a) || !ab.Covers(b) {
			t.Fatal("what it was joined of is not covered", la, lb)
		}
		modelOf(slices.Concat(la, lb)...).holds(t, ab)
		modelOf(la...).holds(t, a)
		modelOf(lb...).holds(t, b)
		if t.Failed() {
			return
		}
	}
}

// One covers another one just where it is the same when that one is joined.
func TestCoversIsWhatJoinAddsNothingTo(t *testing.T) {
	g := rand.New(rand.NewPCG(4, 4))
	yes := 0
	for range 2000 {
		la, lb := randomDots(g, g.IntN(40)), randomDots(g, g.IntN(6))
		a, b, m := of(t, la...), of(t, lb...), modelOf(la...)
		all := !slices.ContainsFunc(lb, func(d api.Dot) bool { return !m[d] })
		if a.Covers(b) != all || join(t, a, b).Same(a) != all {
			t.Fatal(la, lb, all)
		}
		if all {
			yes++
		}
	}
	if yes < 200 || yes > 1800 {
		t.Error("hardly any of one kind:", yes)
	}
}

// Near the greatest count all is as it is near the least.
func TestNearTheGreatestCount(t *testing.T) {
	g := rand.New(rand.NewPCG(4, 5))
	const base = api.MaxCount - 8
	for range 300 {
		far, near := made(t, vector(base, base, base, 0, 0, 0, 0, 0, 0, 0, 0, 0, 0, 0, 0, base), nil), ctx.New()
		for _, d := range randomDots(g, 20) {
			fresh, _ := near.Add(d)
			got, code := far.Add(dot(d.Region, d.Count+base))
			if got != fresh || code != api.OK {
				t.Fatal(d, got, code)
			}
		}
		v, extra := near.Vector(), near.Extra()
		for _, i := range []int{0, 1, 2, 15} {
			v[i] += base
		}
		for i := range extra {
			extra[i].Count += base
		}
		has(t, far, v, extra...)
	}
}
