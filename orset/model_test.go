package orset_test

import (
	"math/rand/v2"
	"slices"
	"testing"

	"minster/api"
	"minster/ctx"
	"minster/orset"
)

// P7.6

// model is a set just as the chapter's words have it: what was seen, of each
// dot the first key, and whether it was ever gone.
type model struct {
	seen      []api.Dot
	first     map[api.Dot]api.Key
	gone      map[api.Dot]bool
	collected map[api.Dot]bool
}

func newModel() *model {
	return &model{first: map[api.Dot]api.Key{}, gone: map[api.Dot]bool{}, collected: map[api.Dot]bool{}}
}

// see answers whether anything changes.
func (m *model) see(i api.Item) bool {
	unseen := !slices.Contains(m.seen, i.Dot)
	if unseen {
		m.seen = append(m.seen, i.Dot)
	}
	switch {
	case i.Gone:
		changes := !m.gone[i.Dot]
		m.gone[i.Dot] = true
		return changes
	case unseen:
		m.first[i.Dot] = i.Key
	}
	return unseen
}

func (m *model) ends(k api.Key) []api.Item {
	var l []api.Item
	for _, i := range m.items() {
		if !i.Gone && i.Key == k {
			l = append(l, gone(i.Dot))
		}
	}
	return l
}

func (m *model) items() []api.Item {
	var l []api.Item
	for _, d := range m.seen {
		switch {
		case !m.gone[d]:
			l = append(l, api.Item{Dot: d, Key: m.first[d]})
		case !m.collected[d]:
			l = append(l, gone(d))
		}
	}
	return byDots(l)
}

func (m *model) holds(t *testing.T, s *orset.Set) {
	t.Helper()
	holds(t, s, context(t, m.seen...), m.items()...)
}

// anyDot is one of few, so that they meet; some of them are far out.
func anyDot(g *rand.Rand) api.Dot {
	d := dot(1+g.IntN(3), 1+g.Uint64N(8))
	if g.IntN(5) == 0 {
		d = dot(16, 1<<62-g.Uint64N(3))
	}
	return d
}

func anyKey(g *rand.Rand) api.Key {
	return key(string(rune('t'+g.IntN(2))), string(rune('a'+g.IntN(3))))
}

func anyItem(g *rand.Rand) api.Item {
	if d := anyDot(g); g.IntN(2) == 0 {
		return gone(d)
	} else {
		return api.Item{Dot: d, Key: anyKey(g)}
	}
}

// step does one thing, to both.
func step(t *testing.T, g *rand.Rand, s *orset.Set, m *model) {
	t.Helper()
	switch d, k := anyDot(g), anyKey(g); g.IntN(4) {
	case 0:
		if slices.Contains(m.seen, d) {
			refusesAdd(t, s, k, d, api.ErrArg)
			return
		}
		told := append([]api.Item{{Dot: d, Key: k}}, m.ends(k)...)
		adds(t, s, k, d, told...)
		for _, i := range told {
			m.see(i)
		}
	case 1:
		told := m.ends(k)
		removes(t, s, k, told...)
		for _, i := range told {
			m.see(i)
		}
	case 2:
		var l []api.Item
		changes := false
		for range g.IntN(4) {
			l = append(l, anyItem(g))
			changes = m.see(l[len(l)-1]) || changes
		}
		sees(t, s, changes, l...)
	case 3:
		want := api.ErrNone
		if m.gone[d] && !m.collected[d] {
			m.collected[d], want = true, api.OK
		}
		if code := s.Collect(d); code != want {
			t.Error(d, code, "and not", want)
		}
	}
}

func TestRandomRunsAgainstAModel(t *testing.T) {
	g := rand.New(rand.NewPCG(7, 2))
	for run := range 150 {
		s, m := orset.New(), newModel()
		for n := range 60 {
			step(t, g, s, m)
			m.holds(t, s)
			if t.Failed() {
				t.Fatal(run, n)
			}
		}
	}
}

// oneKey is the only key that a dot's live items have: so it is where a dot
// names one call.
func oneKey(d api.Dot) api.Key {
	return key(string(rune('t'+d.Count%2)), string(rune('a'+d.Region%3)))
}

// Sets that see the same items, in whatever order, how often, in how many calls,
// and with whatever collected in between, answer alike.
func TestInAnyOrder(t *testing.T) {
	g := rand.New(rand.NewPCG(7, 3))
	for run := range 300 {
		var l []api.Item
		for range 1 + g.IntN(25) {
			i := anyItem(g)
			if !i.Gone {
				i.Key = oneKey(i.Dot)
			}
			l = append(l, i)
		}
		one := seeing(t, l...)
		m := newModel()
		for _, i := range l {
			m.see(i)
		}
		m.holds(t, one)
		for range 4 {
			other := inPieces(t, g, l)
			if !other.Ctx().Same(one.Ctx()) || !slices.Equal(other.Keys(), one.Keys()) {
				t.Fatal(run, l)
			}
			isLive := func(i api.Item) bool { return !i.Gone }
			if a, b := filter(one.Items(), isLive), filter(other.Items(), isLive); !slices.Equal(a, b) {
				t.Fatal(run, a, b)
			}
			collectAll(t, other)
			holds(t, other, one.Ctx(), filter(one.Items(), isLive)...)
		}
		if t.Failed() {
			t.Fatal(run, l)
		}
	}
}

func filter(l []api.Item, is func(api.Item) bool) []api.Item {
	return slices.DeleteFunc(l, func(i api.Item) bool { return !is(i) })
}

func collectAll(t *testing.T, s *orset.Set) {
	t.Helper()
	for _, d := range s.Tombs() {
		if code := s.Collect(d); code != api.OK {
			t.Error(d, code)
		}
	}
}

// inPieces is a set that saw all of l, some of it more than once, and let
// tombstones go in between.
func inPieces(t *testing.T, g *rand.Rand, l []api.Item) *orset.Set {
	t.Helper()
	l = slices.Concat(l, l[:g.IntN(len(l)+1)])
	g.Shuffle(len(l), func(i, j int) { l[i], l[j] = l[j], l[i] })
	s := orset.New()
	for len(l) > 0 {
		n := 1 + g.IntN(len(l))
		if _, code := s.See(l[:n]...); code != api.OK {
			t.Fatal(code)
		}
		l = l[n:]
		for _, d := range s.Tombs() {
			if g.IntN(2) == 0 {
				s.Collect(d)
			}
		}
	}
	return s
}

// What Items and Ctx tell is the whole set.
func TestOfItemsIsTheSet(t *testing.T) {
	g := rand.New(rand.NewPCG(7, 4))
	for range 100 {
		s, m := orset.New(), newModel()
		for range 40 {
			step(t, g, s, m)
		}
		o := made(t, s.Ctx(), s.Items()...)
		m.holds(t, o)
		for range 20 {
			step(t, g, o, m)
			m.holds(t, o)
		}
		if t.Failed() {
			return
		}
	}
}

// Two at a time, on either side of a boundary, till both heard of all: an Add
// that a Remove elsewhere did not see stays, as in the document's example 2.
func TestTwoThatHaveNotHeardOfEachOther(t *testing.T) {
	k := key("news", "a")
	one, two := orset.New(), orset.New()
	first, _ := one.Add(k, dot(1, 1))
	sees(t, two, true, first...)
	given, _ := one.Remove(k)
	again, _ := two.Add(k, dot(2, 1))
	if one.Has(k) || !two.Has(k) {
		t.Error("ahead of it")
	}
	sees(t, one, true, again...)
	sees(t, two, false, given...)
	same(t, one, two)
	holds(t, one, context(t, dot(1, 1), dot(2, 1)), gone(dot(1, 1)), live(dot(2, 1), "news", "a"))

	// Example 3: that it is gone comes ahead of it. Example 10: an old frame.
	three := orset.New()
	sees(t, three, true, given...)
	sees(t, three, false, first...)
	if three.Has(k) {
		t.Error("example 3")
	}
	collectAll(t, three)
	sees(t, three, false, first...)
	holds(t, three, context(t, dot(1, 1)))
	holds(t, orset.New(), ctx.New())
}
