package cast_test

import (
	"math"
	"math/rand/v2"
	"slices"
	"strings"
	"testing"

	"minster/api"
	"minster/cast"
	"minster/event"
)

func dot(region int, count uint64) api.Dot {
	return api.Dot{Region: region, Count: count}
}

// ev is an event that may be, with the rest of its Past.
func ev(region int, count uint64, past ...uint64) api.Event {
	e := api.Event{ID: dot(region, count), Topic: "t", Payload: []byte{byte(region), byte(count >> 8), byte(count)}}
	copy(e.Past[:], past)
	e.Past[region-1] = count - 1
	e.To = []api.Dest{{Dot: dot(1, count), Device: "a"}, {Dot: dot(16, 9), Device: "b"}}
	return e
}

// made is a caster that must be one.
func made(t *testing.T, regions, own int) *cast.Caster {
	t.Helper()
	c, code := cast.New(regions, own)
	if c == nil || code != api.OK {
		t.Fatal("New", regions, own, code)
	}
	return c
}

// after is an event that waits for so many of another region.
func after(region int, count uint64, other int, had uint64) api.Event {
	var past api.Vector
	past[other-1] = had
	return ev(region, count, past[:]...)
}

func same(t *testing.T, what string, got, want []api.Event) {
	t.Helper()
	if !slices.EqualFunc(got, want, event.Same) {
		t.Fatalf("%s: %v, not %v", what, ids(got), ids(want))
	}
}

func ids(l []api.Event) []api.Dot {
	var d []api.Dot
	for _, e := range l {
		d = append(d, e.ID)
	}
	return d
}

// offers wants just these to be applied by an event.
func offers(t *testing.T, c *cast.Caster, e api.Event, want ...api.Event) {
	t.Helper()
	got, code := c.Offer(e)
	if code != api.OK {
		t.Fatal("Offer", e.ID, code)
	}
	same(t, "Offer", got, want)
}

func publishes(t *testing.T, c *cast.Caster, want api.Event) {
	t.Helper()
	e, code := c.Publish(want.Topic, want.Payload, want.To)
	if code != api.OK || !event.Same(e, want) {
		t.Fatalf("Publish: %v, %d, not %v", e, code, want)
	}
}

// refuses wants an offer to be refused, and to change nothing.
func refuses(t *testing.T, c *cast.Caster, e api.Event, want api.Errno) {
	t.Helper()
	log, held := c.Log(), c.Held()
	if l, code := c.Offer(e); code != want || len(l) != 0 {
		t.Error("Offer", e.ID, ids(l), code, want)
	}
	holds(t, c, held, log...)
}

// holds wants just these to be held back, and applied, whichever way one looks.
func holds(t *testing.T, c *cast.Caster, held []api.Event, log ...api.Event) {
	t.Helper()
	same(t, "Held", c.Held(), held)
	same(t, "Log", c.Log(), log)
	if c.Len() != len(log) {
		t.Errorf("Len: %d, not %d", c.Len(), len(log))
	}
	var v api.Vector
	for i, e := range log {
		v[e.ID.Region-1]++
		if got, behind, is := c.At(i); !is || behind != v || !event.Same(got, e) {
			t.Fatalf("At(%d): %v, %v, %v", i, got.ID, behind, is)
		}
	}
	if got := c.Vector(); got != v {
		t.Errorf("Vector: %v, not %v", got, v)
	}
	for _, i := range []int{-1, len(log), len(log) + 1, math.MinInt, math.MaxInt} {
		if e, behind, is := c.At(i); is || behind != (api.Vector{}) || !event.Same(e, api.Event{}) {
			t.Error("At", i, e, behind, is)
		}
	}
	misses(t, c, api.Vector{}, len(log), log...)
	misses(t, c, v, math.MaxInt)
}

func misses(t *testing.T, c *cast.Caster, v api.Vector, most int, want ...api.Event) {
	t.Helper()
	l, code := c.Missing(v, most)
	if code != api.OK {
		t.Error("Missing", v, most, code)
	}
	same(t, "Missing", l, want)
}

// nones are those that are as a nil one is.
func nones() []*cast.Caster {
	return []*cast.Caster{nil, new(cast.Caster)}
}

// full is a caster of which as many are held back as may be: they all wait for
// the first event of region 3.
func full(t *testing.T) (*cast.Caster, []api.Event) {
	t.Helper()
	c := made(t, 3, 1)
	var l []api.Event
	for i := range uint64(api.MaxHeld) {
		l = append(l, ev(2, i+1, 0, 0, 1))
		offers(t, c, l[i])
	}
	return c, l
}

// The chapter's example.
func TestExample(t *testing.T) {
	c := made(t, 2, 1)
	offers(t, c, ev(2, 2))
	holds(t, c, []api.Event{ev(2, 2)})
	offers(t, c, ev(2, 1), ev(2, 1), ev(2, 2))
	holds(t, c, nil, ev(2, 1), ev(2, 2))
}

// The fourth example of the whole: region 3 hears y ahead of x.
func TestExampleOfTheWhole(t *testing.T) {
	one, two, three := made(t, 3, 1), made(t, 3, 2), made(t, 3, 3)
	x, _ := one.Publish("t", []byte("x"), nil)
	offers(t, two, x, x)
	y, _ := two.Publish("t", []byte("y"), nil)
	offers(t, three, y)
	holds(t, three, []api.Event{y})
	offers(t, three, x, x, y)
	offers(t, one, y, y)
	holds(t, one, nil, x, y)
	holds(t, two, nil, x, y)
	holds(t, three, nil, x, y)
}

// P13.1

func TestNew(t *testing.T) {
	for regions := -1; regions <= api.MaxRegions+2; regions++ {
		for own := -1; own <= api.MaxRegions+2; own++ {
			c, code := cast.New(regions, own)
			if regions < 1 || regions > 16 || own < 1 || own > regions {
				if c != nil || code != api.ErrArg {
					t.Error(regions, own, c, code)
				}
				continue
			}
			if c == nil || code != api.OK {
				t.Fatal(regions, own, code)
			}
			holds(t, c, nil)
		}
	}
	for _, n := range []int{math.MinInt, math.MaxInt, 1 << 32, 1<<32 + 1} {
		for _, x := range [][2]int{{n, 1}, {16, n}, {n, n}} {
			if c, code := cast.New(x[0], x[1]); c != nil || code != api.ErrArg {
				t.Error(x, c, code)
			}
		}
	}
}

func TestNewCastersAreApart(t *testing.T) {
	c, o := made(t, 2, 1), made(t, 2, 1)
	offers(t, c, ev(2, 2))
	publishes(t, c, ev(1, 1))
	holds(t, c, []api.Event{ev(2, 2)}, ev(1, 1))
	holds(t, o, nil)
}

// Whose Past is the vector, also of what others did.
func TestPublish(t *testing.T) {
	for own := 1; own <= api.MaxRegions; own++ {
		c := made(t, api.MaxRegions, own)
		other := own%api.MaxRegions + 1
		publishes(t, c, ev(own, 1))
		publishes(t, c, ev(own, 2))
		offers(t, c, ev(other, 1), ev(other, 1))
		offers(t, c, ev(other, 2), ev(other, 2))
		publishes(t, c, after(own, 3, other, 2))
		holds(t, c, nil, ev(own, 1), ev(own, 2), ev(other, 1), ev(other, 2), after(own, 3, other, 2))
	}
}

func TestPublishOfEdges(t *testing.T) {
	c := made(t, 1, 1)
	most := make([]api.Dest, api.MaxLive)
	for i := range most {
		most[i] = api.Dest{Dot: dot(1+i/64, uint64(i%64+1)), Device: strings.Repeat("d", 1+i%32)}
	}
	var log []api.Event
	for i, e := range []api.Event{
		{Topic: "t"},
		{Topic: "\x00"},
		{Topic: strings.Repeat("t", 32), Payload: make([]byte, 512), To: most},
		{Topic: "t", Payload: []byte{}, To: []api.Dest{}},
		{Topic: "\xff\xfe", To: []api.Dest{{Dot: dot(1, 1<<62), Device: "a"}, {Dot: dot(16, 1), Device: "a"}}}, // also of regions that there are not here
	} {
		e.ID, e.Past = dot(1, uint64(i+1)), api.Vector{uint64(i)}
		publishes(t, c, e)
		log = append(log, e)
	}
	holds(t, c, nil, log...)
}

// wrong are events that may not be (layer 9), but for their ID and Past.
func wrong() []api.Event {
	to := func(l ...api.Dest) api.Event { return api.Event{Topic: "t", To: l} }
	a := api.Dest{Dot: dot(1, 2), Device: "a"}
	return []api.Event{
		{},
		{Topic: ""},
		{Topic: strings.Repeat("t", 33)},
		{Topic: "t", Payload: make([]byte, 513)},
		to(api.Dest{}),
		to(api.Dest{Dot: dot(0, 1), Device: "a"}),
		to(api.Dest{Dot: dot(17, 1), Device: "a"}),
		to(api.Dest{Dot: dot(-1, 1), Device: "a"}),
		to(api.Dest{Dot: dot(1, 0), Device: "a"}),
		to(api.Dest{Dot: dot(1, 1<<62+1), Device: "a"}),
		to(api.Dest{Dot: dot(1, 1), Device: ""}),
		to(api.Dest{Dot: dot(1, 1), Device: strings.Repeat("d", 33)}),
		to(a, a),
		to(a, api.Dest{Dot: dot(1, 1), Device: "a"}),
		to(api.Dest{Dot: dot(2, 1), Device: "a"}, a),
		to(make([]api.Dest, 1025)...),
	}
}

func TestPublishRefused(t *testing.T) {
	c := made(t, 2, 2)
	publishes(t, c, ev(2, 1))
	offers(t, c, ev(1, 2))
	for i, w := range wrong() {
		if e, code := c.Publish(w.Topic, w.Payload, w.To); code != api.ErrArg || !event.Same(e, api.Event{}) {
			t.Error(i, e, code)
		}
		holds(t, c, []api.Event{ev(1, 2)}, ev(2, 1))
	}
	publishes(t, c, ev(2, 2))
}

// A published event is the own one alone, whoever waits for it: it is at the
// next one that is applied by an offer that others follow.
func TestPublishAppliesItsOwnAlone(t *testing.T) {
	c := made(t, 3, 2)
	offers(t, c, ev(1, 1, 0, 1))
	publishes(t, c, ev(2, 1))
	holds(t, c, []api.Event{ev(1, 1, 0, 1)}, ev(2, 1))
	offers(t, c, ev(1, 1, 0, 1))
	offers(t, c, ev(2, 1))
	offers(t, c, ev(3, 2))
	holds(t, c, []api.Event{ev(1, 1, 0, 1), ev(3, 2)}, ev(2, 1))
	offers(t, c, ev(3, 1), ev(3, 1), ev(1, 1, 0, 1), ev(3, 2))
	holds(t, c, nil, ev(2, 1), ev(3, 1), ev(1, 1, 0, 1), ev(3, 2))
}

// What is held back is no hindrance.
func TestPublishWhereAllIsHeld(t *testing.T) {
	c, l := full(t)
	publishes(t, c, ev(1, 1))
	publishes(t, c, ev(1, 2))
	holds(t, c, l, ev(1, 1), ev(1, 2))
}

// An event of the own region that came from elsewhere, and was not applied when
// its name was given: it is not held back any more, for it would never be
// applied.
func TestPublishOfAHeldName(t *testing.T) {
	c := made(t, 2, 1)
	stray := ev(1, 2, 0, 1)
	offers(t, c, stray)
	publishes(t, c, ev(1, 1))
	holds(t, c, []api.Event{stray}, ev(1, 1))
	publishes(t, c, ev(1, 2))
	holds(t, c, nil, ev(1, 1), ev(1, 2))
	offers(t, c, stray)
	offers(t, c, ev(2, 1), ev(2, 1))
	holds(t, c, nil, ev(1, 1), ev(1, 2), ev(2, 1))
}

// P13.2

func TestOfferInOrder(t *testing.T) {
	c := made(t, 3, 1)
	l := []api.Event{ev(1, 1), ev(2, 1, 1), ev(3, 1, 1, 1), ev(3, 2, 1, 1), ev(1, 2, 0, 1, 2), ev(2, 2, 2, 0, 1)}
	for i, e := range l {
		offers(t, c, e, e)
		holds(t, c, nil, l[:i+1]...)
	}
}

// Each number of Past of another region, and the count, holds it back alone.
func TestWhatHoldsBack(t *testing.T) {
	for regions := 2; regions <= api.MaxRegions; regions++ {
		for of := 1; of <= regions; of++ {
			c := made(t, regions, 1)
			other := of%regions + 1
			e := after(of, 2, other, 2)
			offers(t, c, ev(of, 1), ev(of, 1))
			offers(t, c, e)
			offers(t, c, ev(other, 1), ev(other, 1))
			holds(t, c, []api.Event{e}, ev(of, 1), ev(other, 1))
			offers(t, c, ev(other, 2), ev(other, 2), e)
			offers(t, c, ev(of, 4))
			holds(t, c, []api.Event{ev(of, 4)}, ev(of, 1), ev(other, 1), ev(other, 2), e)
		}
	}
}

// More than was had ahead holds nothing back.
func TestOfferOfAnElderPast(t *testing.T) {
	c := made(t, 3, 1)
	for i := range uint64(5) {
		offers(t, c, ev(2, i+1), ev(2, i+1))
	}
	offers(t, c, ev(3, 1, 0, 3), ev(3, 1, 0, 3))
	offers(t, c, ev(3, 2), ev(3, 2))
}

// Of one ID, whatever else the event says: also one that could be applied.
func TestOfferOfWhatCame(t *testing.T) {
	c := made(t, 3, 1)
	offers(t, c, ev(2, 1), ev(2, 1))
	offers(t, c, ev(3, 1, 0, 2))
	other := ev(2, 1, 7)
	other.Topic = "other"
	for _, e := range []api.Event{ev(2, 1), other, ev(3, 1, 0, 2), ev(3, 1), ev(3, 1, 9, 9)} {
		offers(t, c, e)
		holds(t, c, []api.Event{ev(3, 1, 0, 2)}, ev(2, 1))
	}
	offers(t, c, ev(2, 2), ev(2, 2), ev(3, 1, 0, 2))
	offers(t, c, ev(3, 1))
	holds(t, c, nil, ev(2, 1), ev(2, 2), ev(3, 1, 0, 2))
}

// Always the one of the least region, asked anew behind each.
func TestOfferAppliesTheLeastRegion(t *testing.T) {
	held := []api.Event{
		ev(1, 1, 0, 0, 1, 1), // waits for (3, 1)
		ev(1, 2, 0, 0, 2, 1),
		ev(2, 1, 0, 0, 0, 1),
		ev(2, 2, 0, 0, 0, 1),
		ev(2, 3, 2, 0, 0, 1), // waits for (1, 2)
		ev(3, 1, 0, 0, 0, 1),
		ev(3, 2, 0, 0, 0, 1),
		ev(4, 2),
	}
	want := []api.Event{ev(4, 1), held[2], held[3], held[5], held[0], held[6], held[1], held[4], held[7]}
	for i := range 40 {
		g := rand.New(rand.NewPCG(13, uint64(i)))
		c := made(t, 4, 4)
		for _, at := range g.Perm(len(held)) {
			offers(t, c, held[at])
		}
		holds(t, c, held)
		offers(t, c, ev(4, 1), want...)
		holds(t, c, nil, want...)
	}
}

func TestOfferLeavesWhatStillWaits(t *testing.T) {
	c := made(t, 3, 1)
	offers(t, c, ev(2, 2))
	offers(t, c, ev(3, 1, 0, 2))
	offers(t, c, ev(3, 3, 0, 2))
	offers(t, c, ev(2, 4))
	offers(t, c, ev(2, 1), ev(2, 1), ev(2, 2), ev(3, 1, 0, 2))
	holds(t, c, []api.Event{ev(2, 4), ev(3, 3, 0, 2)}, ev(2, 1), ev(2, 2), ev(3, 1, 0, 2))
}

// Events of the own region come, too: where it is opened.
func TestOfferOfOwn(t *testing.T) {
	c := made(t, 2, 1)
	offers(t, c, ev(1, 2))
	offers(t, c, ev(1, 1), ev(1, 1), ev(1, 2))
	offers(t, c, ev(2, 1, 2), ev(2, 1, 2))
	publishes(t, c, ev(1, 3, 0, 1))
	offers(t, c, ev(1, 3, 0, 1))
	holds(t, c, nil, ev(1, 1), ev(1, 2), ev(2, 1, 2), ev(1, 3, 0, 1))
}

func TestOfferRefused(t *testing.T) {
	c := made(t, 3, 1)
	offers(t, c, ev(2, 2))
	offers(t, c, ev(1, 1), ev(1, 1))
	for _, w := range wrong() {
		w.ID = dot(2, 1)
		refuses(t, c, w, api.ErrArg)
		w.ID = dot(1, 1) // also of what was applied, and of what is held back
		refuses(t, c, w, api.ErrArg)
		w.ID, w.Past = dot(2, 2), api.Vector{0, 1}
		refuses(t, c, w, api.ErrArg)
	}
	for _, e := range []api.Event{
		ev(4, 1), ev(16, 1), ev(4, 2), // no region here
		ev(2, 1, 0, 0, 0, 1), after(2, 1, 16, 1), ev(2, 1, 0, 0, 0, 1<<62), ev(2, 1, 1, 1, 1, 1), // a Past of none
		ev(2, 1, 1<<62+1), ev(2, 1, math.MaxUint64), ev(2, 1<<62+1), ev(2, math.MaxUint64), // counts
	} {
		refuses(t, c, e, api.ErrArg)
	}
	for _, id := range []api.Dot{dot(0, 1), dot(17, 1), dot(-1, 1), dot(math.MinInt, 1), dot(math.MaxInt, 1), dot(2, 0), {}} {
		e := ev(2, 1)
		e.ID = id
		refuses(t, c, e, api.ErrArg)
	}
	for _, own := range []uint64{1, 2, 1 << 62, math.MaxUint64} {
		e := ev(2, 1)
		e.Past[1] = own
		refuses(t, c, e, api.ErrArg)
	}
	for _, own := range []uint64{0, 1, 3, 4} {
		e := ev(2, 3)
		e.Past[1] = own
		refuses(t, c, e, api.ErrArg)
	}
	holds(t, c, []api.Event{ev(2, 2)}, ev(1, 1))
}

// What is nought and what is not of regions that there are not, for each number
// of them.
func TestOfferOfRegionsThatThereAreNot(t *testing.T) {
	for regions := 1; regions <= api.MaxRegions; regions++ {
		c := made(t, regions, regions)
		for region := 1; region <= api.MaxRegions; region++ {
			switch {
			case region > regions:
				refuses(t, c, ev(region, 1), api.ErrArg)
				refuses(t, c, after(1, 1, region, 1), api.ErrArg)
			case region > 1:
				offers(t, c, after(1, uint64(region), region, 1))
			}
		}
		if got := len(c.Held()); got != regions-1 || c.Len() != 0 {
			t.Error(regions, got, c.Len())
		}
	}
}

// The greatest numbers that may be are held back.
func TestOfferOfGreatCounts(t *testing.T) {
	c := made(t, 16, 1)
	l := []api.Event{after(1, 1<<62, 16, 1<<62), ev(2, 2, 1<<62), ev(16, 1<<62)}
	for _, e := range l {
		offers(t, c, e)
	}
	holds(t, c, l)
}

// Where as many are held back as may be, all is refused but what can be applied:
// also what was applied, or is held back.
func TestOfferWhereAllIsHeld(t *testing.T) {
	c, l := full(t)
	publishes(t, c, ev(1, 1))
	for _, e := range []api.Event{ev(2, 257, 0, 0, 1), ev(3, 2), ev(1, 3), ev(3, 1, 2), l[0], l[255], ev(1, 1)} {
		refuses(t, c, e, api.ErrFull)
	}
	offers(t, c, ev(2, 1)) // this one could be applied, but one of its ID is held back
	holds(t, c, l, ev(1, 1))
	refuses(t, c, ev(4, 1), api.ErrArg)
	refuses(t, c, after(3, 1, 16, 1), api.ErrArg)
	offers(t, c, ev(1, 2), ev(1, 2))
	holds(t, c, l, ev(1, 1), ev(1, 2))
	offers(t, c, ev(3, 1), append([]api.Event{ev(3, 1)}, l...)...)
	holds(t, c, nil, append([]api.Event{ev(1, 1), ev(1, 2), ev(3, 1)}, l...)...)
	offers(t, c, l[0])
	offers(t, c, ev(3, 3))
	holds(t, c, []api.Event{ev(3, 3)}, append([]api.Event{ev(1, 1), ev(1, 2), ev(3, 1)}, l...)...)
}

// One less than may be held back: there is room for one.
func TestOfferOfTheLastThatIsHeld(t *testing.T) {
	c := made(t, 2, 1)
	for i := range uint64(api.MaxHeld - 1) {
		offers(t, c, ev(2, i+2))
	}
	offers(t, c, ev(2, 2))
	offers(t, c, ev(2, 1000))
	refuses(t, c, ev(2, 1001), api.ErrFull)
	if got := len(c.Held()); got != 256 {
		t.Error(got)
	}
	if l, code := c.Offer(ev(2, 1)); len(l) != 256 || code != api.OK { // the last of them waits still
		t.Error(len(l), code)
	}
	offers(t, c, ev(2, 1001))
	if l := c.Held(); len(l) != 2 || c.Len() != 256 {
		t.Error(len(l), c.Len())
	}
}

func TestCallsOfNone(t *testing.T) {
	for _, c := range nones() {
		if e, code := c.Publish("t", nil, nil); code != api.ErrNil || !event.Same(e, api.Event{}) {
			t.Error(e, code)
		}
		if e, code := c.Publish("", make([]byte, 513), make([]api.Dest, 1025)); code != api.ErrNil || !event.Same(e, api.Event{}) {
			t.Error(e, code)
		}
		for _, e := range []api.Event{ev(1, 1), ev(16, 2), {}} {
			if l, code := c.Offer(e); code != api.ErrNil || len(l) != 0 {
				t.Error(l, code)
			}
		}
		for _, most := range []int{0, 1, -1, math.MinInt, math.MaxInt} {
			if l, code := c.Missing(api.Vector{}, most); code != api.ErrNil || len(l) != 0 {
				t.Error(l, code)
			}
		}
		if c.Vector() != (api.Vector{}) || c.Len() != 0 || len(c.Log()) != 0 || len(c.Held()) != 0 || c.Copy() != nil {
			t.Error("looks")
		}
		for _, i := range []int{-1, 0, 1} {
			if e, v, is := c.At(i); is || v != (api.Vector{}) || !event.Same(e, api.Event{}) {
				t.Error(i, e, v, is)
			}
		}
	}
}
