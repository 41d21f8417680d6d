package stable_test

import (
	"math"
	"slices"
	"testing"

	"minster/api"
	"minster/ctx"
	"minster/stable"
)

func dot(region int, count uint64) api.Dot {
	return api.Dot{Region: region, Count: count}
}

// seen is the context of dots.
func seen(dots ...api.Dot) *ctx.Ctx {
	c := ctx.New()
	for _, d := range dots {
		if _, code := c.Add(d); code != api.OK {
			panic(code)
		}
	}
	return c
}

// firsts is the context of so many first dots of each region.
func firsts(t *testing.T, n ...uint64) *ctx.Ctx {
	t.Helper()
	var v api.Vector
	copy(v[:], n)
	return of(t, v)
}

func of(t *testing.T, v api.Vector, extra ...api.Dot) *ctx.Ctx {
	t.Helper()
	c, code := ctx.Of(v, extra)
	if code != api.OK {
		t.Fatal(v, len(extra), code)
	}
	return c
}

// made is a matrix that must be one.
func made(t *testing.T, regions, own int) *stable.Matrix {
	t.Helper()
	m, code := stable.New(regions, own)
	if m == nil || code != api.OK {
		t.Fatal("New", regions, own, code)
	}
	return m
}

func knows(t *testing.T, m *stable.Matrix, region int, c *ctx.Ctx, live ...api.Dot) {
	t.Helper()
	if code := m.Know(region, c, live); code != api.OK {
		t.Fatal("Know", region, live, code)
	}
}

func has(t *testing.T, m *stable.Matrix, region int, v ...uint64) {
	t.Helper()
	if code := m.Have(region, vector(v...)); code != api.OK {
		t.Fatal("Have", region, v, code)
	}
}

func vector(n ...uint64) api.Vector {
	var v api.Vector
	copy(v[:], n)
	return v
}

// gone wants a region to be known to have just those of some dots gone.
func gone(t *testing.T, m *stable.Matrix, region int, of []api.Dot, want ...api.Dot) {
	t.Helper()
	for _, d := range of {
		if got, is := m.Gone(region, d), slices.Contains(want, d); got != is {
			t.Errorf("Gone(%d, %v): %v", region, d, got)
		}
	}
}

// stands wants just those of some dots to be stable.
func stands(t *testing.T, m *stable.Matrix, of []api.Dot, want ...api.Dot) {
	t.Helper()
	for _, d := range of {
		if got, is := m.Stable(d), slices.Contains(want, d); got != is {
			t.Errorf("Stable(%v): %v", d, got)
		}
	}
}

// applied wants just these vectors to be known, rising by region.
func applied(t *testing.T, m *stable.Matrix, all api.Vector, want ...api.Vector) {
	t.Helper()
	for i, v := range want {
		if got := m.Of(i + 1); got != v {
			t.Errorf("Of(%d): %v, not %v", i+1, got, v)
		}
	}
	for _, region := range []int{0, -1, len(want) + 1, 17, math.MinInt, math.MaxInt} {
		if got := m.Of(region); got != (api.Vector{}) {
			t.Errorf("Of(%d): %v", region, got)
		}
	}
	if got := m.All(); got != all {
		t.Errorf("All: %v, not %v", got, all)
	}
}

// refuses wants neither to be taken, for the same reason.
func refuses(t *testing.T, m *stable.Matrix, region int, want api.Errno) {
	t.Helper()
	if code := m.Know(region, ctx.New(), nil); code != want {
		t.Errorf("Know(%d): %d, not %d", region, code, want)
	}
	if code := m.Have(region, vector(1)); code != want {
		t.Errorf("Have(%d): %d, not %d", region, code, want)
	}
}

// grid is so many first dots of each region that may be.
func grid(counts uint64) []api.Dot {
	var l []api.Dot
	for region := range api.MaxRegions {
		for i := range counts {
			l = append(l, dot(region+1, i+1))
		}
	}
	return l
}

// impossible are dots that may not be.
func impossible() []api.Dot {
	return []api.Dot{
		{}, dot(0, 1), dot(-1, 1), dot(17, 1), dot(math.MinInt, 1), dot(math.MaxInt, 1), dot(1, 0), dot(2, 0),
		dot(1, 1<<62+1), dot(16, 1<<62+1), dot(2, math.MaxUint64), dot(1<<32+1, 1),
	}
}

// nones are those that are as a nil one is.
func nones() []*stable.Matrix {
	return []*stable.Matrix{nil, new(stable.Matrix)}
}

// The chapter's example.
func TestExample(t *testing.T) {
	m := made(t, 2, 1)
	knows(t, m, 2, seen(dot(1, 1), dot(1, 2)), dot(1, 2))
	stands(t, m, grid(4), dot(1, 1))
}

// The ninth example of the whole: a subscription was given up, and all regions
// have told that it is gone there.
func TestExampleOfTheWhole(t *testing.T) {
	m := made(t, 3, 1)
	knows(t, m, 2, firsts(t, 1), dot(1, 1))
	knows(t, m, 3, firsts(t, 1), dot(1, 1))
	stands(t, m, grid(2))
	knows(t, m, 3, firsts(t, 1))
	stands(t, m, grid(2))
	knows(t, m, 2, firsts(t, 1))
	stands(t, m, grid(2), dot(1, 1))
}

// P14.1

func TestNew(t *testing.T) {
	for regions := -1; regions <= api.MaxRegions+2; regions++ {
		for own := -1; own <= api.MaxRegions+2; own++ {
			m, code := stable.New(regions, own)
			if regions < 1 || regions > 16 || own < 1 || own > regions {
				if m != nil || code != api.ErrArg {
					t.Error(regions, own, m, code)
				}
				continue
			}
			if m == nil || code != api.OK {
				t.Fatal(regions, own, code)
			}
			applied(t, m, api.Vector{}, make([]api.Vector, regions)...)
			for region := range regions {
				gone(t, m, region+1, grid(3))
			}
			if regions > 1 {
				stands(t, m, grid(3))
			}
		}
	}
	for _, n := range []int{math.MinInt, math.MaxInt, 1 << 32, 1<<32 + 1} {
		for _, x := range [][2]int{{n, 1}, {16, n}, {n, n}} {
			if m, code := stable.New(x[0], x[1]); m != nil || code != api.ErrArg {
				t.Error(x, m, code)
			}
		}
	}
}

func TestNewMatricesAreApart(t *testing.T) {
	m, o := made(t, 2, 1), made(t, 2, 1)
	knows(t, m, 2, firsts(t, 2))
	has(t, m, 2, 3, 4)
	gone(t, o, 2, grid(2))
	applied(t, o, api.Vector{}, api.Vector{}, api.Vector{})
}

// Which regions may tell, for each number of them.
func TestWhoMayTell(t *testing.T) {
	for regions := 1; regions <= api.MaxRegions; regions++ {
		for own := 1; own <= regions; own++ {
			m := made(t, regions, own)
			for region := -2; region <= api.MaxRegions+2; region++ {
				if region < 1 || region > regions || region == own {
					refuses(t, m, region, api.ErrArg)
				} else {
					refuses(t, m, region, api.OK)
				}
			}
			for _, region := range []int{math.MinInt, math.MaxInt, 1<<32 + 1, 1<<32 + 2} {
				refuses(t, m, region, api.ErrArg)
			}
		}
	}
}

// What is known of one region says nothing of another one.
func TestKnowIsOfOneRegion(t *testing.T) {
	m := made(t, 16, 3)
	for region := 1; region <= api.MaxRegions; region++ {
		if region == 3 {
			continue
		}
		knows(t, m, region, seen(dot(region, 1), dot(3, uint64(region)), dot(16, 9)), dot(16, 9))
	}
	for region := 1; region <= api.MaxRegions; region++ {
		if region == 3 {
			gone(t, m, region, grid(17))
			continue
		}
		gone(t, m, region, grid(17), dot(region, 1), dot(3, uint64(region)))
	}
}

// What was gone once is so for good; what was not seen yet is not gone.
func TestKnowGrows(t *testing.T) {
	m := made(t, 2, 2)
	l := grid(5)
	knows(t, m, 1, seen())
	gone(t, m, 1, l)
	knows(t, m, 1, firsts(t, 2, 1), dot(1, 1), dot(1, 2))
	gone(t, m, 1, l, dot(2, 1))
	knows(t, m, 1, firsts(t, 3, 1), dot(1, 2))
	gone(t, m, 1, l, dot(2, 1), dot(1, 1), dot(1, 3))
	knows(t, m, 1, firsts(t, 2, 1), dot(1, 1), dot(1, 2), dot(2, 1)) // an old one
	gone(t, m, 1, l, dot(2, 1), dot(1, 1), dot(1, 3))
	knows(t, m, 1, seen(dot(1, 3), dot(4, 2)), dot(1, 3)) // it can't come back
	gone(t, m, 1, l, dot(2, 1), dot(1, 1), dot(1, 3), dot(4, 2))
	knows(t, m, 1, seen(), []api.Dot{}...)
	gone(t, m, 1, l, dot(2, 1), dot(1, 1), dot(1, 3), dot(4, 2))
	knows(t, m, 1, seen(dot(1, 2)))
	gone(t, m, 1, l, dot(2, 1), dot(1, 1), dot(1, 2), dot(1, 3), dot(4, 2))
}

// A live dot that an elder context does not have stays live, and one that a
// newer one doesn't tell as live is gone.
func TestKnowOfPieces(t *testing.T) {
	m := made(t, 2, 1)
	l := grid(6)
	knows(t, m, 2, seen(dot(1, 5)), dot(1, 5))
	knows(t, m, 2, seen(dot(1, 1), dot(1, 3)), dot(1, 1))
	gone(t, m, 2, l, dot(1, 3))
	knows(t, m, 2, seen(dot(1, 2), dot(1, 4)), dot(1, 2))
	gone(t, m, 2, l, dot(1, 3), dot(1, 4))
	knows(t, m, 2, firsts(t, 5), dot(1, 1), dot(1, 2), dot(1, 5))
	gone(t, m, 2, l, dot(1, 3), dot(1, 4))
	knows(t, m, 2, firsts(t, 6), dot(1, 1), dot(1, 6))
	gone(t, m, 2, l, dot(1, 2), dot(1, 3), dot(1, 4), dot(1, 5))
}

// Dots of regions that there are not here are dots as all others are.
func TestKnowOfDotsOfOthers(t *testing.T) {
	m := made(t, 2, 1)
	knows(t, m, 2, firsts(t, 1, 1, 1, 0, 2), dot(3, 1), dot(5, 2))
	knows(t, m, 2, seen(dot(16, 7)))
	gone(t, m, 2, grid(8), dot(1, 1), dot(2, 1), dot(5, 1), dot(16, 7))
	stands(t, m, grid(8), dot(1, 1), dot(2, 1), dot(5, 1), dot(16, 7))
}

// The greatest counts that may be.
func TestKnowOfGreatCounts(t *testing.T) {
	m := made(t, 2, 1)
	knows(t, m, 2, firsts(t, 1<<62, 1<<62-1), dot(1, 1<<62-1), dot(2, 1))
	l := []api.Dot{
		dot(1, 1<<62), dot(1, 1<<62-1), dot(1, 1), dot(1, 1<<40),
		dot(2, 1<<62), dot(2, 1<<62-1), dot(2, 1), dot(2, 2),
	}
	gone(t, m, 2, l, l[0], l[2], l[3], l[5], l[7])
	knows(t, m, 2, seen(dot(1, 1<<62-1), dot(2, 1<<62)), dot(2, 1<<62))
	gone(t, m, 2, l, l[0], l[1], l[2], l[3], l[5], l[7])
}

// How many are live has no bound here.
func TestKnowOfManyLive(t *testing.T) {
	m := made(t, 2, 1)
	var live []api.Dot
	for i := range uint64(10000) {
		live = append(live, dot(1, 2*i+1))
	}
	knows(t, m, 2, firsts(t, 20000), live...)
	for i := range uint64(10000) {
		if m.Gone(2, dot(1, 2*i+1)) || !m.Gone(2, dot(1, 2*i+2)) {
			t.Fatal(i)
		}
	}
	knows(t, m, 2, firsts(t, 20001), live[:5000]...)
	for i := range uint64(10000) {
		if m.Gone(2, live[i]) != (i >= 5000) {
			t.Fatal(i)
		}
	}
}

func TestKnowRefused(t *testing.T) {
	m := made(t, 3, 2)
	knows(t, m, 1, firsts(t, 1, 1), dot(1, 1))
	knows(t, m, 3, firsts(t, 1, 1), dot(1, 1))
	c := of(t, vector(4, 4, 4), dot(3, 6))
	wrong := [][]api.Dot{
		{dot(1, 2), dot(1, 1)},
		{dot(2, 1), dot(1, 1)},
		{dot(2, 1), dot(1, 2)},
		{dot(1, 2), dot(1, 2)},
		{dot(1, 1), dot(2, 1), dot(2, 1)},
		{dot(1, 1), dot(3, 1), dot(2, 2)},
		{dot(1, 5)},
		{dot(3, 5)},
		{dot(3, 5), dot(3, 6)},
		{dot(3, 6), dot(3, 7)},
		{dot(4, 1)},
		{dot(1, 1), dot(16, 1)},
	}
	for _, d := range impossible() {
		wrong = append(wrong, []api.Dot{d}, []api.Dot{dot(1, 1), d}, []api.Dot{d, dot(3, 4)})
	}
	for _, live := range wrong {
		for _, region := range []int{1, 3} {
			if code := m.Know(region, c, live); code != api.ErrArg {
				t.Error(region, live, code)
			}
			gone(t, m, region, grid(8), dot(2, 1))
		}
	}
	for _, none := range []*ctx.Ctx{nil, new(ctx.Ctx)} {
		for _, live := range [][]api.Dot{nil, {}, {dot(1, 1)}, {{}}} {
			if code := m.Know(1, none, live); code != api.ErrArg {
				t.Error(live, code)
			}
		}
	}
	gone(t, m, 1, grid(8), dot(2, 1))
	stands(t, m, grid(8), dot(2, 1))
	for _, live := range [][]api.Dot{nil, {dot(1, 4), dot(2, 1), dot(2, 3), dot(2, 4), dot(3, 6)}} {
		knows(t, m, 1, c, live...)
	}
}

// apart are so many dots of a region, from one on, that leave gaps.
func apart(region int, from uint64, n int) []api.Dot {
	var l []api.Dot
	for i := range uint64(n) {
		l = append(l, dot(region, from+2*i))
	}
	return l
}

// Exceptions are counted over all that a region told, and of each region for
// itself.
func TestKnowWhereThereIsNoRoom(t *testing.T) {
	m := made(t, 3, 1)
	a, b := apart(1, 2, 2048), apart(2, 2, 2048)
	one := dot(3, 3)
	knows(t, m, 2, of(t, api.Vector{}, a...), a[7])
	knows(t, m, 2, of(t, api.Vector{}, b...), b[9])
	for _, live := range [][]api.Dot{nil, {one}} {
		if code := m.Know(2, seen(one), live); code != api.ErrFull {
			t.Error(live, code)
		}
	}
	if code := m.Know(2, of(t, vector(1), one, dot(3, 5)), nil); code != api.ErrFull { // one less, but two more
		t.Error(code)
	}
	if m.Gone(2, one) || !m.Gone(2, a[8]) || m.Gone(2, a[7]) || m.Gone(2, b[9]) || m.Gone(2, dot(1, 1)) {
		t.Error("changed")
	}
	if code := m.Know(2, seen(one), []api.Dot{one, one}); code != api.ErrArg {
		t.Error("ahead of it", code)
	}
	if code := m.Know(2, seen(one), []api.Dot{dot(1, 1)}); code != api.ErrArg {
		t.Error("ahead of it", code)
	}
	knows(t, m, 3, of(t, api.Vector{}, one)) // another region's
	knows(t, m, 2, seen(a[7], b[8]), b[8])   // what is there already
	if !m.Gone(2, a[7]) || !m.Gone(2, b[8]) || m.Gone(2, b[9]) {
		t.Error("not known")
	}
	knows(t, m, 2, of(t, vector(3), one), one) // fills gaps: one less, and one more
	if m.Gone(2, one) || !m.Gone(2, dot(1, 1)) || !m.Gone(2, dot(1, 3)) {
		t.Error("not known")
	}
}

func TestKnowOfAsManyExceptionsAsMayBe(t *testing.T) {
	m := made(t, 2, 1)
	l := apart(1, 2, api.MaxExtra)
	knows(t, m, 2, of(t, api.Vector{}, l...), l...)
	gone(t, m, 2, l)
	if code := m.Know(2, seen(dot(2, 2)), nil); code != api.ErrFull {
		t.Error(code)
	}
	knows(t, m, 2, of(t, api.Vector{}, l...), l[1:]...)
	gone(t, m, 2, l, l[0])
	knows(t, m, 2, firsts(t, 2*api.MaxExtra, 1))
	gone(t, m, 2, l, l...)
}

// Region by region, also of one's own, and of those that there are not.
func TestHave(t *testing.T) {
	m := made(t, 3, 2)
	has(t, m, 1, 5, 1, 0, 2)
	applied(t, m, api.Vector{}, vector(5, 1, 0, 2), api.Vector{}, api.Vector{})
	has(t, m, 3, 3, 4, 5, 6)
	applied(t, m, vector(3, 1, 0, 2), vector(5, 1, 0, 2), api.Vector{}, vector(3, 4, 5, 6))
	has(t, m, 1, 4, 2, 1)
	applied(t, m, vector(3, 2, 1, 2), vector(5, 2, 1, 2), api.Vector{}, vector(3, 4, 5, 6))
	has(t, m, 1)
	applied(t, m, vector(3, 2, 1, 2), vector(5, 2, 1, 2), api.Vector{}, vector(3, 4, 5, 6))
	has(t, m, 3, 6, 0, 5, 0, 7)
	applied(t, m, vector(5, 2, 1, 2), vector(5, 2, 1, 2), api.Vector{}, vector(6, 4, 5, 6, 7))
	for _, region := range []int{0, 2, 4, -1, 16, 17, math.MinInt, math.MaxInt} {
		if code := m.Have(region, vector(9, 9, 9)); code != api.ErrArg {
			t.Error(region, code)
		}
	}
	applied(t, m, vector(5, 2, 1, 2), vector(5, 2, 1, 2), api.Vector{}, vector(6, 4, 5, 6, 7))
}

// Numbers are taken as they are.
func TestHaveOfGreatNumbers(t *testing.T) {
	m := made(t, 2, 1)
	has(t, m, 2, 1<<62, 1<<62+1, math.MaxUint64, 1<<63)
	has(t, m, 2, 1<<62-1, 1<<62, 1, 1<<63-1, 1)
	v := vector(1<<62, 1<<62+1, math.MaxUint64, 1<<63, 1)
	applied(t, m, v, api.Vector{}, v)
}

func TestHaveOfEachPlace(t *testing.T) {
	m := made(t, 2, 2)
	var want api.Vector
	for i := range want {
		var v api.Vector
		v[i], want[i] = uint64(100-i), uint64(100-i)
		has(t, m, 1, v[:]...)
		applied(t, m, want, want, api.Vector{})
	}
}

// Contexts and vectors are apart.
func TestKnowAndHaveAreApart(t *testing.T) {
	m := made(t, 2, 1)
	knows(t, m, 2, firsts(t, 3, 3))
	applied(t, m, api.Vector{}, api.Vector{}, api.Vector{})
	has(t, m, 2, 7, 7)
	gone(t, m, 2, []api.Dot{dot(1, 4), dot(2, 7)})
}

func TestNoneLearnsNothing(t *testing.T) {
	for _, m := range nones() {
		for region := -1; region <= 18; region++ {
			refuses(t, m, region, api.ErrNil)
			if code := m.Know(region, nil, []api.Dot{{}}); code != api.ErrNil {
				t.Error(region, code)
			}
		}
	}
}
