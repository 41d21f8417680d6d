package stable_test

import (
	"math"
	"slices"
	"testing"

	"minster/api"
	"minster/ctx"
)

// P14.2

// Each other region is asked, whoever is the own one, and no other one.
func TestStableAsksEachOther(t *testing.T) {
	d := dot(4, 2)
	for regions := 2; regions <= api.MaxRegions; regions++ {
		for own := 1; own <= regions; own++ {
			for lacks := range regions + 1 {
				m := made(t, regions, own)
				for region := 1; region <= regions; region++ {
					switch region {
					case own:
					case lacks:
						knows(t, m, region, firsts(t, 9, 9, 9, 9), d)
					default:
						knows(t, m, region, seen(d))
					}
				}
				want := lacks == 0 || lacks == own
				if got := m.Stable(d); got != want {
					t.Error(regions, own, lacks, got)
				}
			}
		}
	}
}

// Of one's own dots, too; and who has told nothing has nothing gone.
func TestStableWhereOneHasToldNothing(t *testing.T) {
	m := made(t, 4, 2)
	knows(t, m, 1, firsts(t, 2, 2))
	knows(t, m, 4, firsts(t, 2, 2))
	stands(t, m, grid(3))
	knows(t, m, 3, ctx.New())
	stands(t, m, grid(3))
	knows(t, m, 3, firsts(t, 1, 3), dot(1, 1))
	stands(t, m, grid(3), dot(2, 1), dot(2, 2))
}

func TestStableWhereThereIsNoOther(t *testing.T) {
	m := made(t, 1, 1)
	l := append(grid(3), dot(1, 1<<62), dot(16, 1<<62))
	stands(t, m, l, l...)
	for _, d := range impossible() {
		if m.Stable(d) {
			t.Error(d)
		}
	}
	gone(t, m, 1, l)
	applied(t, m, api.Vector{}, api.Vector{})
}

func TestDotsThatMayNotBe(t *testing.T) {
	m := made(t, 2, 1)
	knows(t, m, 2, firsts(t, slices.Repeat([]uint64{1 << 62}, 16)...))
	for _, d := range impossible() {
		if m.Stable(d) || m.Gone(2, d) || m.Gone(1, d) {
			t.Error(d)
		}
	}
}

// Of one's own, and of none.
func TestGoneOfNoOther(t *testing.T) {
	m := made(t, 3, 2)
	knows(t, m, 1, firsts(t, 3, 3, 3))
	knows(t, m, 3, firsts(t, 3, 3, 3))
	for _, region := range []int{2, 0, -1, 4, 16, 17, math.MinInt, math.MaxInt} {
		gone(t, m, region, grid(4))
	}
	stands(t, m, grid(3), append(grid(0), dot(1, 1), dot(1, 2), dot(1, 3), dot(2, 1), dot(2, 2), dot(2, 3), dot(3, 1), dot(3, 2), dot(3, 3))...)
}

// The least of any other one, region by region; the own one is not asked.
func TestAll(t *testing.T) {
	for regions := 2; regions <= api.MaxRegions; regions++ {
		for own := 1; own <= regions; own++ {
			m := made(t, regions, own)
			want := make([]api.Vector, regions)
			for region := 1; region <= regions; region++ {
				if region == own {
					continue
				}
				if got := m.All(); got != (api.Vector{}) {
					t.Error(regions, own, region, got)
				}
				for i := range want[region-1] {
					want[region-1][i] = uint64(20 + (region*5+i*3)%16)
				}
				has(t, m, region, want[region-1][:]...)
			}
			var least api.Vector
			for i := range least {
				least[i] = 99
				for region, v := range want {
					if region+1 != own {
						least[i] = min(least[i], v[i])
					}
				}
			}
			applied(t, m, least, want...)
		}
	}
}

func TestCopyGoesOnApart(t *testing.T) {
	m := made(t, 3, 1)
	l := grid(4)
	knows(t, m, 2, firsts(t, 2), dot(1, 2))
	has(t, m, 2, 1)
	o := m.Copy()
	if o == m {
		t.Error("itself")
	}
	gone(t, o, 2, l, dot(1, 1))
	applied(t, o, api.Vector{}, api.Vector{}, vector(1), api.Vector{})
	knows(t, o, 2, firsts(t, 3))
	knows(t, o, 3, firsts(t, 0, 1))
	has(t, o, 2, 0, 5)
	has(t, o, 3, 4)
	gone(t, m, 2, l, dot(1, 1))
	gone(t, m, 3, l)
	applied(t, m, api.Vector{}, api.Vector{}, vector(1), api.Vector{})
	knows(t, m, 2, seen(dot(2, 3), dot(2, 4)), dot(2, 4))
	knows(t, m, 3, firsts(t, 1))
	has(t, m, 2, 3)
	has(t, m, 3, 0, 0, 2)
	gone(t, m, 2, l, dot(1, 1), dot(2, 3))
	gone(t, m, 3, l, dot(1, 1))
	stands(t, m, l, dot(1, 1))
	applied(t, m, api.Vector{}, api.Vector{}, vector(3), vector(0, 0, 2))
	gone(t, o, 2, l, dot(1, 1), dot(1, 2), dot(1, 3))
	gone(t, o, 3, l, dot(2, 1))
	stands(t, o, l)
	applied(t, o, vector(1), api.Vector{}, vector(1, 5), vector(4))
	refuses(t, o, 1, api.ErrArg)
	refuses(t, o, 4, api.ErrArg)
}

func TestLooksOfNone(t *testing.T) {
	for _, m := range nones() {
		if o := m.Copy(); o != nil {
			t.Error("a copy", o)
		}
		applied(t, m, api.Vector{})
		stands(t, m, append(grid(2), impossible()...))
		for region := -1; region <= 18; region++ {
			gone(t, m, region, append(grid(2), impossible()...))
			if got := m.Of(region); got != (api.Vector{}) {
				t.Error(region, got)
			}
		}
	}
}

// What is handed in stays the caller's: neither changes the other.
func TestWhatIsHandedInIsApart(t *testing.T) {
	m := made(t, 2, 1)
	l := grid(6)
	c, live := seen(dot(1, 1), dot(1, 2), dot(1, 4)), []api.Dot{dot(1, 2), dot(1, 4)}
	knows(t, m, 2, c, live...)
	if c.Vector() != vector(2) || !slices.Equal(c.Extra(), []api.Dot{dot(1, 4)}) {
		t.Error("it was changed", c.Vector(), c.Extra())
	}
	if !slices.Equal(live, []api.Dot{dot(1, 2), dot(1, 4)}) {
		t.Error("it was changed", live)
	}
	for i := range uint64(6) {
		c.Add(dot(1, i+1))
	}
	live[0], live[1] = dot(1, 1), dot(5, 5)
	gone(t, m, 2, l, dot(1, 1))
	o := firsts(t, 0, 1)
	knows(t, m, 2, o)
	if o.Vector() != vector(0, 1) || len(o.Extra()) != 0 {
		t.Error("it was changed", o.Vector(), o.Extra())
	}
	knows(t, m, 2, c, dot(1, 2), dot(1, 4))
	gone(t, m, 2, l, dot(1, 1), dot(1, 3), dot(1, 5), dot(1, 6), dot(2, 1))
}

// A refused telling changes neither what is known nor what was handed in.
func TestRefusedIsApart(t *testing.T) {
	m := made(t, 2, 1)
	full := apart(1, 2, api.MaxExtra)
	knows(t, m, 2, of(t, api.Vector{}, full...))
	c, live := seen(dot(2, 2)), []api.Dot{dot(2, 2)}
	if code := m.Know(2, c, live); code != api.ErrFull {
		t.Fatal(code)
	}
	if c.Vector() != (api.Vector{}) || !slices.Equal(c.Extra(), live) || live[0] != dot(2, 2) {
		t.Error("it was changed")
	}
	gone(t, m, 2, append(full, dot(2, 2), dot(1, 1)), full...)
}

// One context may be told by several, and more than once.
func TestOneContextOfSeveral(t *testing.T) {
	m := made(t, 3, 1)
	c := firsts(t, 2)
	knows(t, m, 2, c, dot(1, 2))
	knows(t, m, 3, c, dot(1, 1))
	knows(t, m, 2, c, dot(1, 2))
	gone(t, m, 2, grid(3), dot(1, 1))
	gone(t, m, 3, grid(3), dot(1, 2))
	stands(t, m, grid(3))
}
