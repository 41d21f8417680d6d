package cast_test

import (
	"cmp"
	"math/rand/v2"
	"slices"
	"testing"

	"minster/api"
	"minster/cast"
	"minster/event"
)

// model is a caster just as the chapter's words have it: lists, of which all is
// counted when it is asked.
type model struct {
	regions, own int
	log, held    []api.Event
}

func (m *model) applied(region int) uint64 {
	n := uint64(0)
	for _, e := range m.log {
		if e.ID.Region == region {
			n++
		}
	}
	return n
}

func (m *model) can(e api.Event) bool {
	for i, n := range e.Past {
		if region := i + 1; region != e.ID.Region && n > m.applied(region) {
			return false
		}
	}
	return e.ID.Count == m.applied(e.ID.Region)+1
}

func (m *model) may(e api.Event) bool {
	for i, n := range e.Past {
		if i+1 > m.regions && n != 0 {
			return false
		}
	}
	return event.May(e) && e.ID.Region <= m.regions && e.Past[e.ID.Region-1] == e.ID.Count-1
}

func (m *model) publish() api.Event {
	e := ev(m.own, m.applied(m.own)+1)
	for i := range e.Past {
		e.Past[i] = m.applied(i + 1)
	}
	m.apply(e)
	return e
}

func (m *model) apply(e api.Event) {
	m.log = append(m.log, e)
	m.held = slices.DeleteFunc(m.held, func(o api.Event) bool { return o.ID == e.ID })
}

func (m *model) offer(e api.Event) ([]api.Event, api.Errno) {
	of := func(o api.Event) bool { return o.ID == e.ID }
	switch {
	case !m.may(e):
		return nil, api.ErrArg
	case len(m.held) == api.MaxHeld && !m.can(e):
		return nil, api.ErrFull
	case slices.ContainsFunc(m.log, of) || slices.ContainsFunc(m.held, of):
		return nil, api.OK
	case !m.can(e):
		m.held = append(m.held, e)
		return nil, api.OK
	}
	first := len(m.log)
	m.apply(e)
	for {
		next := slices.IndexFunc(byID(m.held), m.can)
		if next < 0 {
			return m.log[first:], api.OK
		}
		m.apply(byID(m.held)[next])
	}
}

func byID(l []api.Event) []api.Event {
	return slices.SortedFunc(slices.Values(l), func(a, b api.Event) int {
		return cmp.Or(cmp.Compare(a.ID.Region, b.ID.Region), cmp.Compare(a.ID.Count, b.ID.Count))
	})
}

// any is some event, of counts not far from what was applied: it may be ahead of
// it, next, or behind, and now and then may not be here.
func (m *model) any(g *rand.Rand, far int) api.Event {
	region := 1 + g.IntN(m.regions)
	count := m.applied(region) + uint64(g.IntN(far+2))
	e := ev(region, max(count, 1))
	for i := range m.regions {
		if i+1 != region && g.IntN(2) == 0 {
			e.Past[i] = m.applied(i+1) + uint64(g.IntN(far)/2)
		}
	}
	e.Payload = []byte{byte(g.IntN(256))}
	switch at := g.IntN(16); g.IntN(40) {
	case 0:
		e.Past[at]++
	case 1:
		e.ID.Region += g.IntN(3) - 1
	case 2:
		e.To[1] = e.To[0]
	}
	return e
}

func (m *model) step(t *testing.T, g *rand.Rand, c *cast.Caster, far int) {
	t.Helper()
	if g.IntN(8) == 0 {
		publishes(t, c, m.publish())
		return
	}
	e := m.any(g, far)
	want, wanted := m.offer(e)
	got, code := c.Offer(e)
	if code != wanted {
		t.Fatal("Offer", e.ID, e.Past, code, wanted)
	}
	same(t, "Offer", got, want)
}

func TestRandomRuns(t *testing.T) {
	for seed := range uint64(60) {
		g := rand.New(rand.NewPCG(seed, 13))
		regions := 1 + g.IntN(5)
		if seed%10 == 0 {
			regions = api.MaxRegions
		}
		m := &model{regions: regions, own: 1 + g.IntN(regions)}
		c := made(t, m.regions, m.own)
		for i := range 300 {
			if g.IntN(20) == 0 {
				c = c.Copy()
			}
			m.step(t, g, c, 2+int(seed%5))
			if i%25 == 0 {
				holds(t, c, byID(m.held), m.log...)
			}
		}
		holds(t, c, byID(m.held), m.log...)
	}
}

// Much that can't be applied: all that may be held back is.
func TestRandomRunsWhereAllIsHeld(t *testing.T) {
	for seed := range uint64(6) {
		g := rand.New(rand.NewPCG(seed, 14))
		m := &model{regions: 3, own: 1}
		c := made(t, m.regions, m.own)
		refused := 0
		for range 1200 {
			m.step(t, g, c, 300)
			if len(m.held) == api.MaxHeld {
				refused++
			}
		}
		if refused == 0 {
			t.Error("never were so many held back")
		}
		holds(t, c, byID(m.held), m.log...)
	}
}

// told is what was published in a story, and of each what its region had
// applied then.
type told struct {
	events []api.Event
	behind map[api.Dot][]api.Dot
}

// story lets regions publish, and hear of each other, at random.
func story(t *testing.T, g *rand.Rand, regions, n int) told {
	t.Helper()
	s := told{behind: map[api.Dot][]api.Dot{}}
	var all []*cast.Caster
	for own := 1; own <= regions; own++ {
		all = append(all, made(t, regions, own))
	}
	for len(s.events) < n {
		c := all[g.IntN(regions)]
		if len(s.events) > 0 && g.IntN(3) > 0 {
			if _, code := c.Offer(s.events[g.IntN(len(s.events))]); code != api.OK && code != api.ErrFull {
				t.Fatal(code)
			}
			continue
		}
		had := ids(c.Log())
		e, code := c.Publish("t", []byte{byte(len(s.events))}, nil)
		if code != api.OK {
			t.Fatal(code)
		}
		s.events = append(s.events, e)
		s.behind[e.ID] = had
	}
	return s
}

// follows wants each event behind all that its region had applied, and each
// once.
func (s told) follows(t *testing.T, log []api.Event) {
	t.Helper()
	stood := map[api.Dot]int{}
	for i, e := range log {
		if _, twice := stood[e.ID]; twice {
			t.Fatal("twice", e.ID)
		}
		stood[e.ID] = i
		for _, o := range log[i+1:] {
			if event.Before(o, e) {
				t.Fatal(e.ID, "ahead of", o.ID)
			}
		}
		for _, id := range s.behind[e.ID] {
			if at, is := stood[id]; !is || at >= i {
				t.Fatal(e.ID, "ahead of its cause", id)
			}
		}
	}
}

// P13.4

// In whatever order they come, and how often, the same are applied, each once,
// none of them ahead of what happened before it.
func TestWhatIsAppliedDoesNotHangOnTheOrder(t *testing.T) {
	for seed := range uint64(60) {
		g := rand.New(rand.NewPCG(seed, 15))
		regions := 1 + g.IntN(6)
		if seed%10 == 0 {
			regions = api.MaxRegions
		}
		s := story(t, g, regions, 120)
		for range 4 {
			c := made(t, regions, 1+g.IntN(regions))
			come := append(slices.Clone(s.events), s.events[:g.IntN(len(s.events))]...)
			g.Shuffle(len(come), func(i, j int) { come[i], come[j] = come[j], come[i] })
			var applied []api.Event
			for _, e := range come {
				l, code := c.Offer(e)
				if code != api.OK {
					t.Fatal(code)
				}
				applied = append(applied, l...)
			}
			same(t, "all that Offer told", applied, c.Log())
			same(t, "of all", byID(applied), byID(s.events))
			s.follows(t, applied)
			if len(c.Held()) != 0 {
				t.Error(ids(c.Held()))
			}
			holds(t, c, nil, applied...)
		}
	}
}

// At each moment, also where not all have come: none ahead of its causes.
func TestNoneIsAheadOfItsCauses(t *testing.T) {
	for seed := range uint64(20) {
		g := rand.New(rand.NewPCG(seed, 16))
		s := story(t, g, 4, 100)
		c := made(t, 4, 1)
		for _, at := range g.Perm(len(s.events))[:60] {
			if _, code := c.Offer(s.events[at]); code != api.OK {
				t.Fatal(code)
			}
			s.follows(t, c.Log())
		}
		if n := c.Len() + len(c.Held()); n != 60 {
			t.Error(n)
		}
	}
}

// Where more come than may be held back, what is refused may come again.
func TestWhatIsRefusedMayComeAgain(t *testing.T) {
	for seed := range uint64(4) {
		g := rand.New(rand.NewPCG(seed, 17))
		s := story(t, g, 5, 700)
		c := made(t, 5, 5)
		refused := 0
		for range len(s.events) {
			for _, at := range g.Perm(len(s.events)) {
				if _, code := c.Offer(s.events[at]); code == api.ErrFull {
					refused++
				}
			}
			if c.Len() == len(s.events) {
				break
			}
		}
		if refused == 0 {
			t.Error("none was refused")
		}
		same(t, "of all", byID(c.Log()), byID(s.events))
		s.follows(t, c.Log())
	}
}

// Each has what it lacks of another one, piece by piece.
func TestMissingMakesGood(t *testing.T) {
	for seed := range uint64(20) {
		g := rand.New(rand.NewPCG(seed, 18))
		s := story(t, g, 4, 100)
		from, to := made(t, 4, 1), made(t, 4, 2)
		for _, at := range g.Perm(len(s.events)) {
			_, _ = from.Offer(s.events[at])
			if g.IntN(3) == 0 {
				_, _ = to.Offer(s.events[at])
			}
		}
		for to.Len() < from.Len() {
			before := to.Len()
			l, code := from.Missing(to.Vector(), 8)
			if code != api.OK || len(l) == 0 || len(l) > 8 {
				t.Fatal(ids(l), code)
			}
			for _, e := range l {
				_, _ = to.Offer(e)
			}
			if to.Len() == before {
				t.Fatal("no further than", before)
			}
		}
		same(t, "of all", byID(to.Log()), byID(from.Log()))
		s.follows(t, to.Log())
	}
}
