package stable_test

import (
	"math/rand/v2"
	"slices"
	"testing"

	"minster/api"
	"minster/ctx"
	"minster/stable"
)

// P14.3

// telling is what a region tells once: a context and live dots, or a vector.
type telling struct {
	region int
	dots   []api.Dot
	live   []api.Dot
	have   bool
	v      api.Vector
}

// model is a matrix just as the chapter's words have it: all that was told, of
// which each is asked.
type model struct {
	regions, own int
	told         []telling
}

func (m *model) gone(region int, d api.Dot) bool {
	return slices.ContainsFunc(m.told, func(t telling) bool {
		return t.region == region && slices.Contains(t.dots, d) && !slices.Contains(t.live, d)
	})
}

func (m *model) stable(d api.Dot) bool {
	for region := 1; region <= m.regions; region++ {
		if region != m.own && !m.gone(region, d) {
			return false
		}
	}
	return true
}

func (m *model) of(region int) api.Vector {
	var v api.Vector
	for _, t := range m.told {
		for i, n := range t.v {
			if t.region == region {
				v[i] = max(v[i], n)
			}
		}
	}
	return v
}

func (m *model) all() api.Vector {
	var v api.Vector
	for i := range v {
		var l []uint64
		for region := 1; region <= m.regions; region++ {
			if region != m.own {
				l = append(l, m.of(region)[i])
			}
		}
		if len(l) > 0 {
			v[i] = slices.Min(l)
		}
	}
	return v
}

// some is what some region may tell: dots of a few counts, some of them live.
func some(g *rand.Rand, regions, own int) telling {
	t := telling{region: 1 + (own+g.IntN(regions-1))%regions, have: g.IntN(3) == 0}
	if t.have {
		for i := range t.v {
			t.v[i] = uint64(g.IntN(6) * g.IntN(3))
		}
		return t
	}
	full := g.IntN(3)
	for _, d := range grid(4) {
		if g.IntN(3) >= full {
			t.dots = append(t.dots, d)
			if g.IntN(2) == 0 {
				t.live = append(t.live, d)
			}
		}
	}
	return t
}

func tell(t *testing.T, g *rand.Rand, m *stable.Matrix, x telling) {
	t.Helper()
	if x.have {
		has(t, m, x.region, x.v[:]...)
		return
	}
	c := ctx.New()
	for _, i := range g.Perm(len(x.dots)) {
		c.Add(x.dots[i])
	}
	knows(t, m, x.region, c, x.live...)
}

func (m *model) compare(t *testing.T, got *stable.Matrix) {
	t.Helper()
	if a := got.All(); a != m.all() {
		t.Fatalf("All: %v, not %v", a, m.all())
	}
	for region := range m.regions + 2 {
		if v := got.Of(region); v != m.of(region) {
			t.Fatalf("Of(%d): %v, not %v", region, v, m.of(region))
		}
		for _, d := range grid(5) {
			if got.Gone(region, d) != m.gone(region, d) {
				t.Fatalf("Gone(%d, %v)", region, d)
			}
		}
	}
	for _, d := range grid(5) {
		if got.Stable(d) != m.stable(d) {
			t.Fatalf("Stable(%v): %v", d, got.Stable(d))
		}
	}
}

func TestRandomRuns(t *testing.T) {
	for seed := range uint64(60) {
		g := rand.New(rand.NewPCG(14, seed))
		m := &model{regions: 2 + g.IntN(4)}
		m.own = 1 + g.IntN(m.regions)
		got := made(t, m.regions, m.own)
		for range 12 {
			x := some(g, m.regions, m.own)
			old := got.Copy()
			before := model{regions: m.regions, own: m.own, told: slices.Clone(m.told)}
			m.told = append(m.told, x)
			tell(t, g, got, x)
			m.compare(t, got)
			before.compare(t, old)
		}
	}
}

// In whatever order it comes, and how often.
func TestOrderDoesNotMatter(t *testing.T) {
	for seed := range uint64(60) {
		g := rand.New(rand.NewPCG(15, seed))
		m := &model{regions: 2 + g.IntN(3)}
		m.own = 1 + g.IntN(m.regions)
		for range 10 {
			m.told = append(m.told, some(g, m.regions, m.own))
		}
		for range 3 {
			got := made(t, m.regions, m.own)
			for _, i := range g.Perm(len(m.told)) {
				for range 1 + g.IntN(2) {
					tell(t, g, got, m.told[i])
				}
				tell(t, g, got, m.told[g.IntN(len(m.told))])
			}
			m.compare(t, got)
		}
	}
}

// What is known once is known for good, whatever comes.
func TestItGrowsOnly(t *testing.T) {
	for seed := range uint64(40) {
		g := rand.New(rand.NewPCG(16, seed))
		m := made(t, 3, 2)
		for range 20 {
			old := m.Copy()
			tell(t, g, m, some(g, 3, 2))
			for _, region := range []int{1, 3} {
				for _, d := range grid(4) {
					if old.Gone(region, d) && !m.Gone(region, d) || old.Stable(d) && !m.Stable(d) {
						t.Fatal(region, d)
					}
				}
				for i, n := range old.Of(region) {
					if m.Of(region)[i] < n || m.All()[i] < old.All()[i] {
						t.Fatal(region, i)
					}
				}
			}
		}
	}
}
