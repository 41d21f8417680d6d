package event_test

import (
	"math"
	"math/rand/v2"
	"slices"
	"testing"

	"minster/api"
	"minster/event"
)

// P9.2

// at is an event of a region's count, whose region had had that of others.
func at(region int, count uint64, had api.Vector) api.Event {
	had[region-1] = count - 1
	return api.Event{ID: api.Dot{Region: region, Count: count}, Topic: "t", Past: had}
}

func TestBefore(t *testing.T) {
	a := at(1, 3, api.Vector{})
	for _, x := range []struct {
		what string
		b    api.Event
		want bool
	}{
		{"the next one of its region", at(1, 4, api.Vector{}), true},
		{"one far behind it", at(1, maxCount, api.Vector{}), true},
		{"the one ahead of it", at(1, 2, api.Vector{}), false},
		{"its own name", at(1, 3, api.Vector{1: 9}), false},
		{"itself", a, false},
		{"one that had just it", at(2, 1, api.Vector{3}), true},
		{"one that had more", at(2, 1, api.Vector{4}), true},
		{"one that had the most", at(16, 7, api.Vector{maxCount}), true},
		{"one that had one less", at(2, 1, api.Vector{2}), false},
		{"one that had nothing of it", at(2, maxCount, api.Vector{}), false},
		{"one that had of others", at(2, 5, api.Vector{0, 0, 9, 9, 15: 9}), false},
	} {
		if got := event.Before(a, x.b); got != x.want {
			t.Error(x.what, got)
		}
	}
}

func TestBeforeOfWhatMayNotBe(t *testing.T) {
	first := at(1, 1, api.Vector{})
	for what, e := range bad() {
		if event.Before(e, plain()) || event.Before(plain(), e) || event.Before(e, e) || event.Before(first, e) {
			t.Error(what)
		}
	}
	// But for what is wrong these stand ahead of one another.
	a, b := at(1, 1, api.Vector{}), at(2, 1, api.Vector{1})
	if !event.Before(a, b) {
		t.Error("two that may be")
	}
	for _, spoil := range []func(e *api.Event){
		func(e *api.Event) { e.Topic = "" },
		func(e *api.Event) { e.Payload = make([]byte, 513) },
		func(e *api.Event) { e.Past[8] = maxCount + 1 },
		func(e *api.Event) { e.To = make([]api.Dest, 1) },
		func(e *api.Event) { e.Past[e.ID.Region-1]++ },
	} {
		wrong := a
		spoil(&wrong)
		if event.Before(wrong, b) {
			t.Error("the first one may not be", wrong)
		}
		wrong = b
		spoil(&wrong)
		if event.Before(a, wrong) {
			t.Error("the second one may not be", wrong)
		}
	}
}

func TestReadyExamples(t *testing.T) {
	e := api.Event{ID: api.Dot{Region: 2, Count: 5}, Topic: "t", Past: api.Vector{7, 4}}
	for had, want := range map[api.Vector]bool{
		{7, 4}:                       true,
		{6, 4}:                       false,
		{7, 5}:                       false,
		{7, 3}:                       false,
		{8, 4}:                       true,
		{7, 4, 1}:                    true,
		{7, 4, 15: 1}:                true,
		{7, 6}:                       false,
		{8, 5, 1}:                    false,
		{}:                           false,
		{4, 7}:                       false,
		{0, 4}:                       false,
		{math.MaxUint64, 4}:          true,
		{7, math.MaxUint64}:          false,
		{7, 4, math.MaxUint64}:       true,
		{6, 4, 9, 9, 9, 9, 9, 15: 9}: false,
	} {
		if got := event.Ready(e, had); got != want {
			t.Error(had, got)
		}
	}
}

func TestReadyLooksAtEachRegion(t *testing.T) {
	for region := 1; region <= 16; region++ {
		var past api.Vector
		for i := range past {
			past[i] = 10
		}
		e := at(region, 11, past)
		if !event.Ready(e, past) {
			t.Error(region, "is not ready")
		}
		for i := range past {
			less, more := past, past
			less[i]--
			more[i]++
			if event.Ready(e, less) {
				t.Error(region, less)
			}
			if got, want := event.Ready(e, more), i != region-1; got != want {
				t.Error(region, more, got)
			}
		}
	}
}

func TestReadyAtTheEdges(t *testing.T) {
	if !event.Ready(least(), api.Vector{}) || event.Ready(least(), api.Vector{1}) {
		t.Error("the first one")
	}
	e := greatest()
	if !event.Ready(e, e.Past) {
		t.Error("the last one")
	}
	had := e.Past
	had[15]++
	if event.Ready(e, had) {
		t.Error("the last one was had")
	}
	for what, e := range bad() {
		if event.Ready(e, e.Past) || event.Ready(e, api.Vector{}) {
			t.Error(what)
		}
	}
}

// story is what regions published, each having heard what it had heard then:
// with each event the places of those that are its causes.
type story struct {
	events []api.Event
	causes []map[int]bool
}

// tell makes a story: a region publishes, or hears the next event of another
// region whose causes it has.
func tell(g *rand.Rand, regions, steps int) story {
	var s story
	had := make([]map[int]bool, regions)
	for i := range had {
		had[i] = map[int]bool{}
	}
	for range steps {
		own := g.IntN(regions)
		if g.IntN(3) == 0 {
			s.events = append(s.events, s.next(g, own, had[own]))
			s.causes = append(s.causes, cloneOf(had[own]))
			had[own][len(s.events)-1] = true
			continue
		}
		for _, i := range g.Perm(len(s.events)) {
			if !had[own][i] && holdsAll(had[own], s.causes[i]) {
				had[own][i] = true
				break
			}
		}
	}
	return s
}

// next is the next event of a region that had these.
func (s story) next(g *rand.Rand, own int, had map[int]bool) api.Event {
	e := api.Event{Topic: name(g)}
	for i := range had {
		id := s.events[i].ID
		e.Past[id.Region-1] = max(e.Past[id.Region-1], id.Count)
	}
	e.ID = api.Dot{Region: own + 1, Count: e.Past[own] + 1}
	return e
}

func cloneOf(m map[int]bool) map[int]bool {
	c := map[int]bool{}
	for k := range m {
		c[k] = true
	}
	return c
}

func holdsAll(m, o map[int]bool) bool {
	for k := range o {
		if !m[k] {
			return false
		}
	}
	return true
}

func TestBeforeTellsCauses(t *testing.T) {
	g := rand.New(rand.NewPCG(9, 5))
	for range 100 {
		s := tell(g, 1+g.IntN(16), 150)
		for i, a := range s.events {
			for j, b := range s.events {
				if got := event.Before(a, b); got != s.causes[j][i] {
					t.Fatal(a, b, got)
				}
			}
		}
	}
}

func TestReadyTellsWhatCanBeHad(t *testing.T) {
	g := rand.New(rand.NewPCG(9, 6))
	for range 30 {
		s := tell(g, 1+g.IntN(16), 120)
		had, v := map[int]bool{}, api.Vector{}
		for len(had) < len(s.events) {
			var ready []int
			for i, e := range s.events {
				want := !had[i] && holdsAll(had, s.causes[i])
				if event.Ready(e, v) != want {
					t.Fatal(e, v, !want)
				}
				if want {
					ready = append(ready, i)
				}
			}
			i := ready[g.IntN(len(ready))]
			had[i] = true
			v[s.events[i].ID.Region-1]++
		}
	}
}

// P9.3

func TestUnder(t *testing.T) {
	v := api.Vector{3, 4, 15: maxCount}
	for _, x := range []struct {
		dot  api.Dot
		want bool
	}{
		{api.Dot{Region: 2, Count: 4}, true},
		{api.Dot{Region: 2, Count: 5}, false},
		{api.Dot{Region: 2, Count: 1}, true},
		{api.Dot{Region: 1, Count: 3}, true},
		{api.Dot{Region: 1, Count: 4}, false},
		{api.Dot{Region: 3, Count: 1}, false},
		{api.Dot{Region: 16, Count: 1}, true},
		{api.Dot{Region: 16, Count: maxCount}, true},
		{api.Dot{Region: 16, Count: maxCount + 1}, false},
		{api.Dot{}, false},
		{api.Dot{Region: 1}, false},
		{api.Dot{Region: 16}, false},
		{api.Dot{Region: 0, Count: 1}, false},
		{api.Dot{Region: 17, Count: 1}, false},
		{api.Dot{Region: -1, Count: 1}, false},
		{api.Dot{Region: 257, Count: 1}, false},
		{api.Dot{Region: math.MinInt, Count: 1}, false},
		{api.Dot{Region: math.MaxInt, Count: 1}, false},
		{api.Dot{Region: 2, Count: math.MaxUint64}, false},
	} {
		if got := event.Under(v, x.dot); got != x.want {
			t.Error(x.dot, got)
		}
	}
}

func TestUnderAVectorOfAnyNumbers(t *testing.T) {
	var v api.Vector
	for i := range v {
		v[i] = math.MaxUint64
	}
	for region := -1; region <= 18; region++ {
		for count, may := range map[uint64]bool{0: false, 1: true, maxCount: true, maxCount + 1: false, math.MaxUint64: false} {
			d := api.Dot{Region: region, Count: count}
			if got, want := event.Under(v, d), may && region >= 1 && region <= 16; got != want {
				t.Error(d, got)
			}
			if event.Under(api.Vector{}, d) {
				t.Error("under noughts:", d)
			}
		}
	}
}

func TestJoin(t *testing.T) {
	g := rand.New(rand.NewPCG(9, 7))
	for range 1000 {
		var a, b, want api.Vector
		for i := range want {
			a[i], b[i] = g.Uint64()>>g.IntN(64), g.Uint64()>>g.IntN(64)
			want[i] = a[i]
			if b[i] > a[i] {
				want[i] = b[i]
			}
		}
		keptA, keptB := a, b
		if got := event.Join(a, b); got != want || event.Join(b, a) != want {
			t.Fatal(a, b, got)
		}
		if event.Join(a, a) != a || event.Join(a, api.Vector{}) != a || event.Join(want, b) != want || a != keptA || b != keptB {
			t.Fatal(a, b)
		}
	}
	most := api.Vector{math.MaxUint64, 0, 5, 15: 1}
	other := api.Vector{maxCount, 1, 5, 15: math.MaxUint64}
	if got := event.Join(most, other); got != (api.Vector{math.MaxUint64, 1, 5, 15: math.MaxUint64}) {
		t.Error(got)
	}
}

func TestLess(t *testing.T) {
	rising := []api.Dot{
		{Region: math.MinInt, Count: 5}, {Region: -1, Count: 9}, {}, {Count: 1}, {Region: 1}, {Region: 1, Count: 1}, {Region: 1, Count: 2},
		{Region: 1, Count: 256}, {Region: 1, Count: maxCount}, {Region: 1, Count: math.MaxUint64}, {Region: 2, Count: 1},
		{Region: 2, Count: 1 << 40}, {Region: 3, Count: 2}, {Region: 10, Count: 1}, {Region: 16, Count: 1}, {Region: 17},
		{Region: 300, Count: 1}, {Region: math.MaxInt, Count: 0}, {Region: math.MaxInt, Count: 1},
	}
	for i, a := range rising {
		for j, b := range rising {
			if got := event.Less(a, b); got != (i < j) {
				t.Error(a, b, got)
			}
		}
	}
}

// P9.5

func TestWhatIsReadyIsNotUnderWhatWasHad(t *testing.T) {
	g := rand.New(rand.NewPCG(9, 8))
	ready := 0
	for range 5000 {
		e := random(g)
		had := e.Past
		for range g.IntN(3) {
			had[g.IntN(16)] += uint64(g.IntN(3)) - 1
		}
		if event.Before(e, e) {
			t.Fatal(e, "stands ahead of itself")
		}
		if !event.Ready(e, had) {
			continue
		}
		ready++
		behind := had
		behind[e.ID.Region-1] = e.ID.Count
		if event.Under(had, e.ID) || had[e.ID.Region-1]+1 != e.ID.Count || !event.Under(behind, e.ID) || event.Ready(e, behind) {
			t.Fatal(e, had)
		}
	}
	if ready < 500 {
		t.Error("few were ready:", ready)
	}
	for what, e := range good() {
		if event.Before(e, e) || !event.Ready(e, e.Past) || event.Under(e.Past, e.ID) {
			t.Error(what)
		}
	}
	for what, e := range bad() {
		if event.Before(e, e) {
			t.Error(what, "stands ahead of itself")
		}
	}
}

// Of two at most one stands ahead of the other one; and what stands ahead of
// one that stands ahead stands ahead itself, among what was published.
func TestBeforeIsAnOrder(t *testing.T) {
	g := rand.New(rand.NewPCG(9, 9))
	for range 20 {
		s := tell(g, 1+g.IntN(6), 100)
		for _, a := range s.events {
			for _, b := range s.events {
				if !event.Before(a, b) {
					continue
				}
				if event.Before(b, a) {
					t.Fatal(a, b)
				}
				if i := slices.IndexFunc(s.events, func(c api.Event) bool { return event.Before(b, c) && !event.Before(a, c) }); i >= 0 {
					t.Fatal(a, b, s.events[i])
				}
			}
		}
	}
}
