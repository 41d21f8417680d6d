package event_test

import (
	"bytes"
	"math"
	"math/rand/v2"
	"slices"
	"strings"
	"testing"

	"minster/api"
	"minster/event"
)

const maxCount = 1 << 62

// plain is an event that may be, of which the tests change one thing or
// another; each call's is new memory.
func plain() api.Event {
	return api.Event{
		ID:      api.Dot{Region: 2, Count: 5},
		Topic:   "news",
		Payload: []byte("hello"),
		Past:    api.Vector{7, 4, 0, 9},
		To: []api.Dest{
			{Dot: api.Dot{Region: 1, Count: 3}, Device: "a"},
			{Dot: api.Dot{Region: 1, Count: 300}, Device: "b"},
			{Dot: api.Dot{Region: 4, Count: 2}, Device: "a"},
		},
	}
}

// with is the plain event with a change.
func with(change func(e *api.Event)) api.Event {
	e := plain()
	change(&e)
	return e
}

// dests is n dests that may be, rising.
func dests(n int) []api.Dest {
	var l []api.Dest
	for i := range n {
		d := api.Dot{Region: 1 + i*16/n, Count: uint64(i + 1)}
		l = append(l, api.Dest{Dot: d, Device: "d" + string(rune('a'+i%26))})
	}
	return l
}

// greatest is the event that has all that one may have at most.
func greatest() api.Event {
	e := api.Event{
		ID:      api.Dot{Region: 16, Count: maxCount},
		Topic:   strings.Repeat("t", 32),
		Payload: bytes.Repeat([]byte{255}, 512),
		To:      dests(1024),
	}
	for i := range e.Past {
		e.Past[i] = maxCount
	}
	e.Past[15] = maxCount - 1
	for i := range e.To {
		e.To[i].Device = strings.Repeat("d", 32)
	}
	e.To[1023].Dot = api.Dot{Region: 16, Count: maxCount}
	return e
}

// least is the event that has as little as one may have.
func least() api.Event {
	return api.Event{ID: api.Dot{Region: 1, Count: 1}, Topic: "t"}
}

// good are events that may be, by what is at an edge in them.
func good() map[string]api.Event {
	all := map[string]api.Event{
		"plain":              plain(),
		"greatest":           greatest(),
		"least":              least(),
		"nobody":             with(func(e *api.Event) { e.To = nil }),
		"an empty list":      with(func(e *api.Event) { e.To = []api.Dest{} }),
		"no payload":         with(func(e *api.Event) { e.Payload = nil }),
		"an empty payload":   with(func(e *api.Event) { e.Payload = []byte{} }),
		"512 of payload":     with(func(e *api.Event) { e.Payload = make([]byte, 512) }),
		"32 of topic":        with(func(e *api.Event) { e.Topic = strings.Repeat("é", 16) }),
		"a topic of nought":  with(func(e *api.Event) { e.Topic = "\x00" }),
		"a topic of 255":     with(func(e *api.Event) { e.Topic = "\xff\xfe" }),
		"32 of device":       with(func(e *api.Event) { e.To[1].Device = strings.Repeat("\xff", 32) }),
		"one dest":           with(func(e *api.Event) { e.To = e.To[:1] }),
		"1024 dests":         with(func(e *api.Event) { e.To = dests(1024) }),
		"dest 1 1":           with(func(e *api.Event) { e.To[0].Dot = api.Dot{Region: 1, Count: 1} }),
		"dest 16 MaxCount":   with(func(e *api.Event) { e.To[2].Dot = api.Dot{Region: 16, Count: maxCount} }),
		"falling counts":     with(func(e *api.Event) { e.To[1].Dot = api.Dot{Region: 2, Count: 1} }),
		"the event's dot":    with(func(e *api.Event) { e.To[1].Dot = e.ID }),
		"past of MaxCount":   with(func(e *api.Event) { e.Past[0] = maxCount }),
		"past of region 16":  with(func(e *api.Event) { e.Past[15] = maxCount }),
		"no past elsewhere":  with(func(e *api.Event) { e.Past = api.Vector{1: 4} }),
		"the last one":       with(func(e *api.Event) { e.ID.Count, e.Past[1] = maxCount, maxCount-1 }),
		"the first one":      with(func(e *api.Event) { e.ID.Count, e.Past[1] = 1, 0 }),
		"of region 1":        with(func(e *api.Event) { e.ID = api.Dot{Region: 1, Count: 8} }),
		"of region 16":       with(func(e *api.Event) { e.ID = api.Dot{Region: 16, Count: 1} }),
		"one device, thrice": with(func(e *api.Event) { e.To[1].Device = "a" }),
	}
	return all
}

// bad are events that may not be, by what is wrong with them.
func bad() map[string]api.Event {
	all := map[string]api.Event{
		"zero":                {},
		"region 0":            with(func(e *api.Event) { e.ID.Region = 0 }),
		"region 17":           with(func(e *api.Event) { e.ID.Region = 17 }),
		"region -1":           with(func(e *api.Event) { e.ID.Region = -1 }),
		"region 258":          with(func(e *api.Event) { e.ID.Region = 258 }),
		"the least region":    with(func(e *api.Event) { e.ID.Region = math.MinInt }),
		"the greatest region": with(func(e *api.Event) { e.ID.Region = math.MaxInt }),
		"count 0":             with(func(e *api.Event) { e.ID.Count, e.Past[1] = 0, 0 }),
		"count 0, past round": with(func(e *api.Event) { e.ID.Count, e.Past[1] = 0, math.MaxUint64 }),
		"count too great":     with(func(e *api.Event) { e.ID.Count, e.Past[1] = maxCount+1, maxCount }),
		"the greatest count":  with(func(e *api.Event) { e.ID.Count, e.Past[1] = math.MaxUint64, math.MaxUint64-1 }),
		"past behind":         with(func(e *api.Event) { e.Past[1] = 3 }),
		"past of itself":      with(func(e *api.Event) { e.Past[1] = 5 }),
		"past beyond":         with(func(e *api.Event) { e.Past[1] = 6 }),
		"past of a neighbour": with(func(e *api.Event) { e.Past[0], e.Past[1] = 4, 7 }),
		"past too great":      with(func(e *api.Event) { e.Past[0] = maxCount + 1 }),
		"past 16 too great":   with(func(e *api.Event) { e.Past[15] = maxCount + 1 }),
		"the greatest past":   with(func(e *api.Event) { e.Past[2] = math.MaxUint64 }),
		"no topic":            with(func(e *api.Event) { e.Topic = "" }),
		"33 of topic":         with(func(e *api.Event) { e.Topic = strings.Repeat("t", 33) }),
		"32 letters of two":   with(func(e *api.Event) { e.Topic = strings.Repeat("é", 32) }),
		"513 of payload":      with(func(e *api.Event) { e.Payload = make([]byte, 513) }),
		"65536 of payload":    with(func(e *api.Event) { e.Payload = make([]byte, 65536) }),
		"1025 dests":          with(func(e *api.Event) { e.To = dests(1025) }),
		"65536 dests":         with(func(e *api.Event) { e.To = dests(65536) }),
		"swapped dests":       with(func(e *api.Event) { e.To[0], e.To[1] = e.To[1], e.To[0] }),
		"swapped regions":     with(func(e *api.Event) { e.To[1], e.To[2] = e.To[2], e.To[1] }),
		"a region falls":      with(func(e *api.Event) { e.To[0].Dot = api.Dot{Region: 5, Count: 1} }),
		"a dest twice":        with(func(e *api.Event) { e.To[1] = e.To[0] }),
		"a dot twice":         with(func(e *api.Event) { e.To[1].Dot = e.To[0].Dot }),
		"the last dot twice":  with(func(e *api.Event) { e.To = append(e.To, e.To[2]) }),
		"the ends swapped":    with(func(e *api.Event) { e.To = dests(1024); e.To[1022], e.To[1023] = e.To[1023], e.To[1022] }),
	}
	for i, place := range []string{"first", "second", "last"} {
		all[place+" dest's region 0"] = with(func(e *api.Event) { e.To[i].Dot.Region = 0 })
		all[place+" dest's region 17"] = with(func(e *api.Event) { e.To[i].Dot.Region = 17 })
		all[place+" dest's region -1"] = with(func(e *api.Event) { e.To[i].Dot.Region = -1 })
		all[place+" dest's region 257"] = with(func(e *api.Event) { e.To[i].Dot.Region += 256 })
		all[place+" dest's count 0"] = with(func(e *api.Event) { e.To[i].Dot.Count = 0 })
		all[place+" dest's count too great"] = with(func(e *api.Event) { e.To[i].Dot.Count = maxCount + 1 })
		all[place+" dest's device empty"] = with(func(e *api.Event) { e.To[i].Device = "" })
		all[place+" dest's device of 33"] = with(func(e *api.Event) { e.To[i].Device = strings.Repeat("d", 33) })
		all[place+" dest zero"] = with(func(e *api.Event) { e.To[i] = api.Dest{} })
	}
	// Of one alone none stands behind it that would be wrong, too.
	all["one dest, zero"] = with(func(e *api.Event) { e.To = make([]api.Dest, 1) })
	all["one dest, count too great"] = with(func(e *api.Event) { e.To = e.To[2:]; e.To[0].Dot.Count = math.MaxUint64 })
	all["one dest, region 17"] = with(func(e *api.Event) { e.To = e.To[2:]; e.To[0].Dot.Region = 17 })
	return all
}

// clone is an event that shares no memory with e.
func clone(e api.Event) api.Event {
	e.Payload, e.To = slices.Clone(e.Payload), slices.Clone(e.To)
	return e
}

// P9.1: what may be

func TestMayName(t *testing.T) {
	for n := range 100 {
		for _, c := range []string{"a", "\x00", "\xff", "\n", " "} {
			if got, want := event.MayName(strings.Repeat(c, n)), n >= 1 && n <= 32; got != want {
				t.Errorf("%d times %q: %v", n, c, got)
			}
		}
	}
	for _, s := range []string{strings.Repeat("é", 16), strings.Repeat("\u20ac", 10), "\xc3", "a b\tc", "\xff\xfe\x00"} {
		if !event.MayName(s) {
			t.Errorf("%q", s)
		}
	}
	for _, s := range []string{strings.Repeat("é", 17), strings.Repeat("é", 32), strings.Repeat("x", 256), strings.Repeat("x", 1<<16+1)} {
		if event.MayName(s) {
			t.Errorf("%d bytes", len(s))
		}
	}
}

func TestMayDot(t *testing.T) {
	regions := map[int]bool{
		1: true, 2: true, 8: true, 15: true, 16: true,
		0: false, 17: false, 18: false, -1: false, -16: false, 32: false, 255: false, 256: false, 257: false,
		1<<32 + 1: false, math.MinInt: false, math.MinInt + 1: false, math.MaxInt: false,
	}
	counts := map[uint64]bool{
		1: true, 2: true, 255: true, 256: true, 1 << 32: true, maxCount - 1: true, maxCount: true,
		0: false, maxCount + 1: false, 1 << 63: false, 1<<63 + 1: false, math.MaxUint64 - 1: false, math.MaxUint64: false,
	}
	for region, there := range regions {
		for count, may := range counts {
			if got := event.MayDot(api.Dot{Region: region, Count: count}); got != (there && may) {
				t.Error(region, count, got)
			}
		}
	}
	if event.MayDot(api.Dot{}) {
		t.Error("a zero one may be")
	}
}

func TestMay(t *testing.T) {
	for what, e := range good() {
		if !event.May(e) {
			t.Errorf("%s: may not be", what)
		}
	}
	for what, e := range bad() {
		if event.May(e) {
			t.Errorf("%s: may be", what)
		}
	}
}

func TestMayOfEachRegion(t *testing.T) {
	for region := 1; region <= 16; region++ {
		e := api.Event{ID: api.Dot{Region: region, Count: 9}, Topic: "t"}
		for i := range e.Past {
			e.Past[i] = 8
			if got, want := event.May(e), i >= region-1; got != want {
				t.Error(region, e.Past, got)
			}
		}
		for i := range e.Past {
			other := e
			other.Past[i] = maxCount + 1
			if event.May(other) {
				t.Error(region, other.Past)
			}
			other.Past[i] = maxCount
			if got, want := event.May(other), i != region-1; got != want {
				t.Error(region, other.Past, got)
			}
		}
	}
}

func TestMayAtEachPlaceOfMany(t *testing.T) {
	for i := range 1024 {
		for _, wrong := range []func(d *api.Dest){
			func(d *api.Dest) { d.Device = "" },
			func(d *api.Dest) { d.Dot.Count = 0 },
			func(d *api.Dest) { d.Dot.Count = maxCount + 1 },
			func(d *api.Dest) { d.Dot.Region = 0 },
		} {
			e := with(func(e *api.Event) { e.To = dests(1024) })
			wrong(&e.To[i])
			if event.May(e) {
				t.Fatal(i, e.To[i])
			}
		}
	}
}

// P9.4

func TestTo(t *testing.T) {
	e := plain()
	for device, want := range map[string][]api.Dot{
		"a":     {{Region: 1, Count: 3}, {Region: 4, Count: 2}},
		"b":     {{Region: 1, Count: 300}},
		"c":     nil,
		"":      nil,
		"A":     nil,
		"aa":    nil,
		"a\x00": nil,
		"news":  nil,
	} {
		if got := event.To(e, device); !slices.Equal(got, want) {
			t.Errorf("%q: %v", device, got)
		}
	}
	if got := event.To(least(), "a"); len(got) != 0 {
		t.Error(got)
	}
	if got := event.To(api.Event{}, ""); len(got) != 0 {
		t.Error(got)
	}
}

func TestToOfMany(t *testing.T) {
	e := greatest()
	var all []api.Dot
	for _, d := range e.To {
		all = append(all, d.Dot)
	}
	if got := event.To(e, strings.Repeat("d", 32)); !slices.Equal(got, all) {
		t.Error(len(got))
	}
	if got := event.To(e, strings.Repeat("d", 31)); len(got) != 0 {
		t.Error(len(got))
	}
	n := 0
	few := with(func(e *api.Event) { e.To = dests(1024) })
	for c := 'a'; c <= 'z'; c++ {
		l := event.To(few, "d"+string(c))
		if !slices.IsSortedFunc(l, func(a, b api.Dot) int { return int(a.Count) - int(b.Count) }) {
			t.Error(l)
		}
		n += len(l)
	}
	if n != 1024 {
		t.Error(n)
	}
}

// unlike are events each of which differs from the plain one, and from all
// others of these.
func unlike() []api.Event {
	return []api.Event{
		{},
		with(func(e *api.Event) { e.ID.Region = 3 }),
		with(func(e *api.Event) { e.ID.Count = 6 }),
		with(func(e *api.Event) { e.Topic = "new" }),
		with(func(e *api.Event) { e.Topic = "newt" }),
		with(func(e *api.Event) { e.Topic = "" }),
		with(func(e *api.Event) { e.Payload = nil }),
		with(func(e *api.Event) { e.Payload = []byte("hell") }),
		with(func(e *api.Event) { e.Payload[4]++ }),
		with(func(e *api.Event) { e.Payload = append(e.Payload, 0) }),
		with(func(e *api.Event) { e.Past[0]++ }),
		with(func(e *api.Event) { e.Past[1]++ }),
		with(func(e *api.Event) { e.Past[15]++ }),
		with(func(e *api.Event) { e.To = nil }),
		with(func(e *api.Event) { e.To = e.To[:2] }),
		with(func(e *api.Event) { e.To = e.To[1:] }),
		with(func(e *api.Event) { e.To[0].Dot.Region = 3 }),
		with(func(e *api.Event) { e.To[2].Dot.Count++ }),
		with(func(e *api.Event) { e.To[1].Device = "c" }),
		with(func(e *api.Event) { e.To[0], e.To[1] = e.To[1], e.To[0] }),
		with(func(e *api.Event) { e.To = append(e.To, e.To[2]) }),
	}
}

func TestSame(t *testing.T) {
	all := append(unlike(), plain())
	for i, a := range all {
		for j, b := range all {
			if got := event.Same(a, clone(b)); got != (i == j) {
				t.Error(i, j, got)
			}
		}
	}
	for what, e := range good() {
		if !event.Same(e, clone(e)) {
			t.Error(what, "is not itself")
		}
	}
	for what, e := range bad() {
		if !event.Same(e, clone(e)) || event.Same(e, plain()) || event.Same(plain(), e) {
			t.Error(what)
		}
	}
}

func TestNilAndEmptyAreOne(t *testing.T) {
	a := with(func(e *api.Event) { e.Payload, e.To = nil, nil })
	b := with(func(e *api.Event) { e.Payload, e.To = []byte{}, []api.Dest{} })
	if !event.Same(a, b) || !event.Same(b, a) || !event.May(a) || !event.May(b) {
		t.Error(event.Same(a, b), event.Same(b, a), event.May(a), event.May(b))
	}
	one, _ := event.Bytes(a)
	two, _ := event.Bytes(b)
	if !bytes.Equal(one, two) || len(one) == 0 {
		t.Error(one, two)
	}
}

// What is handed in stays as it was, its spare room too.

func TestNothingIsChanged(t *testing.T) {
	g := rand.New(rand.NewPCG(9, 1))
	for range 50 {
		e := with(func(e *api.Event) {
			e.Payload = append(make([]byte, 0, 600), e.Payload...)
			e.To = append(make([]api.Dest, 0, 100), e.To...)
			if g.IntN(3) == 0 {
				e.To[0], e.To[1] = e.To[1], e.To[0]
			}
		})
		payload, to := slices.Clone(e.Payload[:600]), slices.Clone(e.To[:100])
		b, _ := event.Bytes(e)
		event.May(e)
		event.Before(e, e)
		event.Ready(e, e.Past)
		event.Same(e, e)
		l := event.To(e, "a")
		for i := range b {
			b[i] = 99
		}
		for i := range l {
			l[i] = api.Dot{Region: 9, Count: 9}
		}
		_ = append(l, api.Dot{Region: 9, Count: 9})
		if !bytes.Equal(e.Payload[:600], payload) || !slices.Equal(e.To[:100], to) {
			t.Fatal("an event was changed")
		}
	}
}
