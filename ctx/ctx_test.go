package ctx_test

import (
	"math"
	"math/rand/v2"
	"slices"
	"testing"

	"minster/api"
	"minster/ctx"
)

// model is a set of dots just as the chapter's words have it, without a form
// of its own.
type model map[api.Dot]bool

func modelOf(l ...api.Dot) model {
	m := model{}
	for _, d := range l {
		m[d] = true
	}
	return m
}

// dots are the model's, by Region, then Count.
func (m model) dots() []api.Dot {
	var l []api.Dot
	for d := range m {
		l = append(l, d)
	}
	slices.SortFunc(l, func(a, b api.Dot) int {
		switch {
		case a.Region != b.Region:
			return a.Region - b.Region
		case a.Count < b.Count:
			return -1
		case a.Count > b.Count:
			return 1
		}
		return 0
	})
	return l
}

func (m model) vector() api.Vector {
	var v api.Vector
	for i := range v {
		for m[api.Dot{Region: i + 1, Count: v[i] + 1}] {
			v[i]++
		}
	}
	return v
}

func (m model) extra() []api.Dot {
	v := m.vector()
	return slices.DeleteFunc(m.dots(), func(d api.Dot) bool { return d.Count <= v[d.Region-1] })
}

func (m model) next(region int) uint64 {
	var greatest uint64
	for d := range m {
		if d.Region == region {
			greatest = max(greatest, d.Count)
		}
	}
	return greatest + 1
}

func dot(region int, count uint64) api.Dot {
	return api.Dot{Region: region, Count: count}
}

func vector(n ...uint64) api.Vector {
	var v api.Vector
	copy(v[:], n)
	return v
}

// of is a context to which the dots were added.
func of(t *testing.T, l ...api.Dot) *ctx.Ctx {
	t.Helper()
	c := ctx.New()
	for _, d := range l {
		if _, code := c.Add(d); code != api.OK {
			t.Fatal("Add", d, code)
		}
	}
	return c
}

// gaps are n dots of a region of which none is next to another one.
func gaps(region int, from uint64, n int) []api.Dot {
	var l []api.Dot
	for i := range n {
		l = append(l, dot(region, from+2*uint64(i)))
	}
	return l
}

// made is a context of v and l, which must be one's.
func made(t *testing.T, v api.Vector, l []api.Dot) *ctx.Ctx {
	t.Helper()
	c, code := ctx.Of(v, l)
	if c == nil || code != api.OK {
		t.Fatal("Of", v, len(l), code)
	}
	return c
}

// has tells where c has not just this vector and these exceptions.
func has(t *testing.T, c *ctx.Ctx, v api.Vector, extra ...api.Dot) {
	t.Helper()
	if got := c.Vector(); got != v {
		t.Errorf("vector %v, not %v", got, v)
	}
	if got := c.Extra(); !slices.Equal(got, extra) {
		if len(got)+len(extra) < 100 {
			t.Errorf("exceptions %v, not %v", got, extra)
		} else {
			t.Errorf("%d exceptions, not %d, or others", len(got), len(extra))
		}
	}
}

func (m model) holds(t *testing.T, c *ctx.Ctx) {
	t.Helper()
	has(t, c, m.vector(), m.extra()...)
}

// randomDots are so many of few regions and low counts, so that they meet.
func randomDots(g *rand.Rand, n int) []api.Dot {
	l := make([]api.Dot, n)
	for i := range l {
		l[i] = dot(1+g.IntN(3), 1+g.Uint64N(8))
		if g.IntN(4) == 0 {
			l[i].Region = 16
		}
	}
	return l
}

// nones are those that are as a nil one is.
func nones() []*ctx.Ctx {
	return []*ctx.Ctx{nil, new(ctx.Ctx)}
}

// notDots may not be.
func notDots() []api.Dot {
	return []api.Dot{
		{}, dot(0, 1), dot(-1, 1), dot(17, 1), dot(18, 5), dot(256+1, 1), dot(1<<32+1, 1), dot(math.MaxInt, 1), dot(math.MinInt, 1),
		dot(1, 0), dot(16, 0), dot(0, 0), dot(1, 1<<62+1), dot(16, 1<<63), dot(1, math.MaxUint64), dot(17, 1<<62+1),
	}
}

// The chapter's examples.
func TestExamples(t *testing.T) {
	c := of(t, dot(1, 1), dot(1, 3))
	has(t, c, vector(1), dot(1, 3))
	if fresh, code := c.Add(dot(1, 2)); !fresh || code != api.OK {
		t.Error(fresh, code)
	}
	has(t, c, vector(3))
	if n, code := of(t, dot(1, 5)).Next(1); n != 6 || code != api.OK {
		t.Error(n, code)
	}
}

// P4.1

func TestNewHasNone(t *testing.T) {
	c := ctx.New()
	has(t, c, api.Vector{})
	for _, d := range append(notDots(), dot(1, 1), dot(16, 1<<62)) {
		if c.Has(d) {
			t.Error(d)
		}
	}
	c.Add(dot(1, 1))
	has(t, ctx.New(), api.Vector{})
}

func TestOf(t *testing.T) {
	full := api.Vector{}
	for i := range full {
		full[i] = api.MaxCount
	}
	for _, x := range []struct {
		v     api.Vector
		extra []api.Dot
	}{
		{api.Vector{}, nil},
		{api.Vector{}, []api.Dot{}},
		{vector(3), nil},
		{full, nil},
		{vector(3), []api.Dot{dot(1, 5)}},
		{vector(0), []api.Dot{dot(1, 2)}},
		{vector(0, 1), []api.Dot{dot(1, 2), dot(1, 3), dot(1, 9), dot(2, 3), dot(16, 1<<62)}},
		{vector(1<<62-2, 1<<62), []api.Dot{dot(1, 1<<62)}},
		{vector(5, 7), []api.Dot{dot(3, 1<<62-1), dot(3, 1<<62)}},
		{vector(1), gaps(1, 3, api.MaxExtra)},
	} {
		has(t, made(t, x.v, x.extra), x.v, x.extra...)
	}
}

func TestOfRefusesWhatIsNone(t *testing.T) {
	type given struct {
		v     api.Vector
		extra []api.Dot
	}
	last := api.Vector{}
	last[15] = math.MaxUint64
	l := []given{
		{vector(1<<62 + 1), nil},
		{vector(0, 1<<63), nil},
		{vector(math.MaxUint64), []api.Dot{dot(1, 1)}},
		{last, nil},
		{vector(3), []api.Dot{dot(1, 1)}},
		{vector(3), []api.Dot{dot(1, 3)}},
		{vector(3), []api.Dot{dot(1, 4)}},
		{vector(), []api.Dot{dot(1, 1)}},
		{vector(), []api.Dot{dot(16, 1)}},
		{vector(1<<62 - 1), []api.Dot{dot(1, 1<<62)}},
		{vector(), []api.Dot{dot(1, 3), dot(1, 3)}},
		{vector(), []api.Dot{dot(1, 4), dot(1, 3)}},
		{vector(), []api.Dot{dot(2, 3), dot(1, 3)}},
		{vector(), []api.Dot{dot(2, 3), dot(1, 4)}},
		{vector(), []api.Dot{dot(1, 3), dot(2, 3), dot(1, 5)}},
		{vector(2), []api.Dot{dot(1, 4), dot(1, 5), dot(2, 1)}},
	}
	for _, d := range notDots() {
		l = append(l, given{vector(), []api.Dot{d}}, given{vector(), []api.Dot{dot(1, 3), d}}, given{vector(), []api.Dot{d, dot(16, 3)}})
	}
	for _, x := range l {
		if c, code := ctx.Of(x.v, x.extra); c != nil || code != api.ErrArg {
			t.Error(x.v, x.extra, c, code)
		}
	}
}

func TestOfHasRoomForSoManyExceptions(t *testing.T) {
	extra := gaps(2, 2, api.MaxExtra+1)
	if c, code := ctx.Of(api.Vector{}, extra); c != nil || code != api.ErrFull {
		t.Error(c, code)
	}
	if c, code := ctx.Of(api.Vector{}, gaps(1, 2, 3*api.MaxExtra)); c != nil || code != api.ErrFull {
		t.Error(c, code)
	}
	made(t, api.Vector{}, extra[1:])
	// What may not be comes ahead of what there is no room for.
	extra[api.MaxExtra].Region = 17
	if c, code := ctx.Of(api.Vector{}, extra); c != nil || code != api.ErrArg {
		t.Error(c, code)
	}
	if c, code := ctx.Of(vector(0, 2), gaps(2, 2, api.MaxExtra+1)); c != nil || code != api.ErrArg {
		t.Error(c, code)
	}
	if c, code := ctx.Of(vector(1<<62+1), gaps(2, 2, api.MaxExtra+1)); c != nil || code != api.ErrArg {
		t.Error(c, code)
	}
}

func TestMay(t *testing.T) {
	for region := 1; region <= 16; region++ {
		for _, count := range []uint64{1, 2, 255, 1 << 32, 1<<62 - 1, 1 << 62} {
			if !ctx.May(dot(region, count)) {
				t.Error(region, count)
			}
		}
	}
	for _, d := range notDots() {
		if ctx.May(d) {
			t.Error(d)
		}
	}
}

// Less is asked of dots that may not be, too.
func TestLess(t *testing.T) {
	rising := []api.Dot{
		dot(math.MinInt, 5), dot(-1, math.MaxUint64), dot(0, 0), dot(0, 9), dot(1, 0), dot(1, 1), dot(1, 2), dot(1, 1<<62), dot(1, 1<<63),
		dot(1, math.MaxUint64), dot(2, 1), dot(2, 3), dot(10, 2), dot(16, 1), dot(17, 0), dot(math.MaxInt, 1),
	}
	for i, a := range rising {
		for j, b := range rising {
			if got := ctx.Less(a, b); got != (i < j) {
				t.Error(a, b, got)
			}
		}
	}
}

// P4.2

func TestAdd(t *testing.T) {
	c := ctx.New()
	for i, x := range []struct {
		d     api.Dot
		fresh bool
		v     api.Vector
		extra []api.Dot
	}{
		{dot(2, 4), true, vector(), []api.Dot{dot(2, 4)}},
		{dot(2, 4), false, vector(), []api.Dot{dot(2, 4)}},
		{dot(1, 2), true, vector(), []api.Dot{dot(1, 2), dot(2, 4)}},
		{dot(2, 1), true, vector(0, 1), []api.Dot{dot(1, 2), dot(2, 4)}},
		{dot(2, 1), false, vector(0, 1), []api.Dot{dot(1, 2), dot(2, 4)}},
		{dot(2, 6), true, vector(0, 1), []api.Dot{dot(1, 2), dot(2, 4), dot(2, 6)}},
		{dot(2, 3), true, vector(0, 1), []api.Dot{dot(1, 2), dot(2, 3), dot(2, 4), dot(2, 6)}},
		{dot(3, 2), true, vector(0, 1), []api.Dot{dot(1, 2), dot(2, 3), dot(2, 4), dot(2, 6), dot(3, 2)}},
		{dot(2, 2), true, vector(0, 4), []api.Dot{dot(1, 2), dot(2, 6), dot(3, 2)}},
		{dot(2, 3), false, vector(0, 4), []api.Dot{dot(1, 2), dot(2, 6), dot(3, 2)}},
		{dot(2, 5), true, vector(0, 6), []api.Dot{dot(1, 2), dot(3, 2)}},
		{dot(1, 1), true, vector(2, 6), []api.Dot{dot(3, 2)}},
		{dot(3, 1), true, vector(2, 6, 2), nil},
		{dot(3, 3), true, vector(2, 6, 3), nil},
		{dot(3, 3), false, vector(2, 6, 3), nil},
	} {
		if fresh, code := c.Add(x.d); fresh != x.fresh || code != api.OK {
			t.Error(i, x.d, fresh, code)
		}
		has(t, c, x.v, x.extra...)
	}
}

func TestAddRefusesDotsThatMayNotBe(t *testing.T) {
	for _, c := range []*ctx.Ctx{ctx.New(), of(t, dot(1, 1), dot(1, 3)), made(t, api.Vector{}, gaps(1, 2, api.MaxExtra))} {
		before := c.Copy()
		for _, d := range notDots() {
			if fresh, code := c.Add(d); fresh || code != api.ErrArg {
				t.Error(d, fresh, code)
			}
		}
		if !c.Same(before) {
			t.Error("what is refused changes it")
		}
	}
}

func TestAddWhereNoMoreExceptionsHaveRoom(t *testing.T) {
	extra := gaps(2, 3, api.MaxExtra)
	for _, d := range []api.Dot{dot(2, 4), dot(2, 1<<61), dot(1, 2), dot(3, 2), dot(16, 1<<62)} {
		c := made(t, api.Vector{}, extra)
		if fresh, code := c.Add(d); fresh || code != api.ErrFull {
			t.Error(d, fresh, code)
		}
		has(t, c, api.Vector{}, extra...)
		if c.Has(d) {
			t.Error(d)
		}
	}
	c := made(t, api.Vector{}, extra)
	for _, d := range []api.Dot{extra[0], extra[77], extra[api.MaxExtra-1]} {
		if fresh, code := c.Add(d); fresh || code != api.OK {
			t.Error(d, fresh, code)
		}
	}
	// The next ones need no room; some make it.
	for _, d := range []api.Dot{dot(1, 1), dot(1, 2), dot(2, 1)} {
		if fresh, code := c.Add(d); !fresh || code != api.OK {
			t.Error(d, fresh, code)
		}
	}
	has(t, c, vector(2, 1), extra...)
	if fresh, code := c.Add(dot(2, 2)); !fresh || code != api.OK {
		t.Error(fresh, code)
	}
	has(t, c, vector(2, 3), extra[1:]...)
	if fresh, code := c.Add(dot(9, 9)); !fresh || code != api.OK {
		t.Error(fresh, code)
	}
	if fresh, code := c.Add(dot(9, 11)); fresh || code != api.ErrFull {
		t.Error(fresh, code)
	}
}

func TestAddUpToTheLastException(t *testing.T) {
	c, extra := ctx.New(), gaps(7, 2, api.MaxExtra)
	for i, d := range slices.Backward(extra) {
		if fresh, code := c.Add(d); !fresh || code != api.OK {
			t.Fatal(i, fresh, code)
		}
	}
	has(t, c, api.Vector{}, extra...)
	if fresh, code := c.Add(dot(7, 1<<62)); fresh || code != api.ErrFull {
		t.Error(fresh, code)
	}
	// All gaps but the last are filled, from behind: the counts lie one behind
	// the other, but are beyond the first ones still.
	c = ctx.New()
	for count := uint64(api.MaxExtra + 1); count > 1; count-- {
		c.Add(dot(7, count))
	}
	if c.Vector() != (api.Vector{}) || len(c.Extra()) != api.MaxExtra {
		t.Error(c.Vector(), len(c.Extra()))
	}
	c.Add(dot(7, 1))
	has(t, c, vector(0, 0, 0, 0, 0, 0, api.MaxExtra+1))
}

func TestHas(t *testing.T) {
	c := made(t, vector(3, 0, 1), []api.Dot{dot(1, 5), dot(1, 1<<62), dot(2, 2), dot(16, 7)})
	for _, d := range []api.Dot{dot(1, 1), dot(1, 2), dot(1, 3), dot(1, 5), dot(1, 1<<62), dot(2, 2), dot(3, 1), dot(16, 7)} {
		if !c.Has(d) {
			t.Error(d)
		}
	}
	no := []api.Dot{dot(1, 4), dot(1, 6), dot(1, 1<<62-1), dot(2, 1), dot(2, 3), dot(3, 2), dot(4, 1), dot(15, 7), dot(16, 1), dot(16, 6), dot(16, 8)}
	for _, d := range append(no, notDots()...) {
		if c.Has(d) {
			t.Error(d)
		}
	}
}

func TestNext(t *testing.T) {
	c := made(t, vector(3, 0, 1<<62, 1<<62-1, 0, 1<<62-2), []api.Dot{dot(1, 5), dot(1, 9), dot(2, 2), dot(5, 1<<62-1), dot(6, 1<<62)})
	for _, x := range []struct {
		region int
		n      uint64
		code   api.Errno
	}{
		{1, 10, api.OK}, {2, 3, api.OK}, {3, 0, api.ErrFull}, {4, 1 << 62, api.OK}, {5, 1 << 62, api.OK}, {6, 0, api.ErrFull},
		{7, 1, api.OK}, {16, 1, api.OK}, {0, 0, api.ErrArg}, {-1, 0, api.ErrArg}, {17, 0, api.ErrArg}, {1<<32 + 1, 0, api.ErrArg},
		{math.MaxInt, 0, api.ErrArg}, {math.MinInt, 0, api.ErrArg},
	} {
		if n, code := c.Next(x.region); n != x.n || code != x.code {
			t.Error(x.region, n, code)
		}
	}
	if n, code := ctx.New().Next(1); n != 1 || code != api.OK {
		t.Error(n, code)
	}
	if n, code := of(t, dot(1, 1), dot(1, 2)).Next(1); n != 3 || code != api.OK {
		t.Error(n, code)
	}
}

// The greatest of counts is one like another, and nothing comes behind it.
func TestTheGreatestCount(t *testing.T) {
	c := made(t, vector(1<<62-2), []api.Dot{dot(1, 1<<62)})
	if fresh, code := c.Add(dot(1, 1<<62-1)); !fresh || code != api.OK {
		t.Error(fresh, code)
	}
	has(t, c, vector(1<<62))
	if fresh, code := c.Add(dot(1, 1<<62)); fresh || code != api.OK {
		t.Error(fresh, code)
	}
	if fresh, code := c.Add(dot(1, 1<<62+1)); fresh || code != api.ErrArg {
		t.Error(fresh, code)
	}
	if n, code := c.Next(1); n != 0 || code != api.ErrFull {
		t.Error(n, code)
	}
	has(t, c, vector(1<<62))
}

// P4.2, P4.4: dots in any order, held against a set of dots.
func TestAddInAnyOrder(t *testing.T) {
	g := rand.New(rand.NewPCG(4, 1))
	for range 300 {
		c, m := ctx.New(), model{}
		for _, d := range randomDots(g, 40) {
			if fresh, code := c.Add(d); fresh == m[d] || code != api.OK {
				t.Fatal(d, fresh, code)
			}
			m[d] = true
			m.holds(t, c)
		}
		for region := 1; region <= 16; region++ {
			if n, code := c.Next(region); n != m.next(region) || code != api.OK {
				t.Fatal(region, n, code)
			}
			for count := range uint64(11) {
				if c.Has(dot(region, count)) != m[dot(region, count)] {
					t.Fatal(region, count)
				}
			}
		}
		if t.Failed() {
			return
		}
	}
}

// P4.4: it is what its dots are: by whatever order they came, by Of, by Join.
func TestItIsWhatItsDotsAre(t *testing.T) {
	g := rand.New(rand.NewPCG(4, 2))
	for range 300 {
		l := randomDots(g, g.IntN(40))
		first, m := of(t, l...), modelOf(l...)
		g.Shuffle(len(l), func(i, j int) { l[i], l[j] = l[j], l[i] })
		at := g.IntN(len(l) + 1)
		joined := of(t, l[:at]...)
		if code := joined.Join(of(t, l[at:]...)); code != api.OK {
			t.Fatal(code)
		}
		for i, other := range []*ctx.Ctx{of(t, l...), of(t, m.dots()...), made(t, m.vector(), m.extra()), joined} {
			if !first.Same(other) || !other.Same(first) || !first.Covers(other) || !other.Covers(first) {
				t.Fatal(i, l)
			}
			m.holds(t, other)
		}
	}
}

// What is handed in and what is answered is nobody else's.
func TestWhatIsHandedInAndOutStays(t *testing.T) {
	extra := []api.Dot{dot(1, 5), dot(2, 3), dot(2, 9)}
	c := made(t, vector(3), extra[:2])
	extra[0] = dot(9, 9)
	has(t, c, vector(3), dot(1, 5), dot(2, 3))
	c.Add(dot(1, 7))
	c.Add(dot(1, 4))
	c.Add(dot(16, 4))
	if extra[0] != dot(9, 9) || extra[1] != dot(2, 3) || extra[2] != dot(2, 9) {
		t.Error("what was handed in is changed:", extra)
	}
	told, v := c.Extra(), c.Vector()
	told[0] = dot(8, 8)
	_ = append(told[:1], dot(7, 7))
	v[0] = 99
	has(t, c, vector(5), dot(1, 7), dot(2, 3), dot(16, 4))
	told = c.Extra()
	c.Add(dot(1, 6))
	c.Add(dot(2, 5))
	if !slices.Equal(told, []api.Dot{dot(1, 7), dot(2, 3), dot(16, 4)}) {
		t.Error("what was answered is changed:", told)
	}
}
