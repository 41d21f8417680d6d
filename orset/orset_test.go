package orset_test

import (
	"math"
	"slices"
	"strings"
	"testing"

	"minster/api"
	"minster/ctx"
	"minster/orset"
)

func dot(region int, count uint64) api.Dot {
	return api.Dot{Region: region, Count: count}
}

func key(topic, device string) api.Key {
	return api.Key{Topic: topic, Device: device}
}

func live(d api.Dot, topic, device string) api.Item {
	return api.Item{Dot: d, Key: key(topic, device)}
}

func gone(d api.Dot) api.Item {
	return api.Item{Dot: d, Gone: true}
}

// goneFrom are n dots of a region, one behind the other, as tombstones.
func goneFrom(region int, from uint64, n int) []api.Item {
	var l []api.Item
	for i := range n {
		l = append(l, gone(dot(region, from+uint64(i))))
	}
	return l
}

// liveFrom are n dots of a region, one behind the other, all with one key.
func liveFrom(region int, from uint64, n int) []api.Item {
	l := goneFrom(region, from, n)
	for i := range l {
		l[i].Gone, l[i].Key = false, key("t", "d")
	}
	return l
}

// gaps are n dots of a region of which none is next to another one.
func gaps(region int, from uint64, n int) []api.Dot {
	var l []api.Dot
	for i := range n {
		l = append(l, dot(region, from+2*uint64(i)))
	}
	return l
}

// context is of just these dots.
func context(t *testing.T, l ...api.Dot) *ctx.Ctx {
	t.Helper()
	c := ctx.New()
	for _, d := range l {
		if _, code := c.Add(d); code != api.OK {
			t.Fatal("Add", d, code)
		}
	}
	return c
}

// extras is a context of these exceptions.
func extras(t *testing.T, v api.Vector, l []api.Dot) *ctx.Ctx {
	t.Helper()
	c, code := ctx.Of(v, l)
	if code != api.OK {
		t.Fatal("Of", len(l), code)
	}
	return c
}

// made is the set of these, which must be one's.
func made(t *testing.T, c *ctx.Ctx, l ...api.Item) *orset.Set {
	t.Helper()
	s, code := orset.Of(c, l)
	if s == nil || code != api.OK {
		t.Fatal("Of", len(l), code)
	}
	return s
}

// seeing is a set that saw the items.
func seeing(t *testing.T, l ...api.Item) *orset.Set {
	t.Helper()
	s := orset.New()
	if _, code := s.See(l...); code != api.OK {
		t.Fatal("See", len(l), code)
	}
	return s
}

func sees(t *testing.T, s *orset.Set, changes bool, l ...api.Item) {
	t.Helper()
	if changed, code := s.See(l...); changed != changes || code != api.OK {
		t.Error(changed, code)
	}
}

// adds wants just these items told.
func adds(t *testing.T, s *orset.Set, k api.Key, d api.Dot, want ...api.Item) {
	t.Helper()
	if got, code := s.Add(k, d); code != api.OK || !slices.Equal(got, want) {
		t.Error(got, code, "and not", want)
	}
}

func removes(t *testing.T, s *orset.Set, k api.Key, want ...api.Item) {
	t.Helper()
	if got, code := s.Remove(k); code != api.OK || !slices.Equal(got, want) {
		t.Error(got, code, "and not", want)
	}
}

// refusesAdd wants it refused, with nothing beside the error, and the set as it
// was.
func refusesAdd(t *testing.T, s *orset.Set, k api.Key, d api.Dot, want api.Errno) {
	t.Helper()
	before := s.Copy()
	if got, code := s.Add(k, d); got != nil || code != want {
		t.Error(len(got), code, "and not", want)
	}
	same(t, s, before)
}

// refusesSee wants the same of See.
func refusesSee(t *testing.T, s *orset.Set, want api.Errno, l ...api.Item) {
	t.Helper()
	before := s.Copy()
	if changed, code := s.See(l...); changed || code != want {
		t.Error(changed, code, "and not", want)
	}
	same(t, s, before)
}

// same wants one context and the same items.
func same(t *testing.T, s, o *orset.Set) {
	t.Helper()
	if !s.Ctx().Same(o.Ctx()) {
		t.Error("contexts:", s.Ctx().Vector(), "and", o.Ctx().Vector())
	}
	if a, b := s.Items(), o.Items(); !slices.Equal(a, b) {
		t.Error("items:", len(a), "and", len(b))
	}
}

// notDots may not be.
func notDots() []api.Dot {
	return []api.Dot{
		{}, dot(0, 1), dot(-1, 1), dot(17, 1), dot(257, 1), dot(math.MaxInt, 1), dot(math.MinInt, 1),
		dot(1, 0), dot(16, 0), dot(1, 1<<62+1), dot(16, 1<<63), dot(1, math.MaxUint64),
	}
}

// keys may be; notKeys may not.
func keys() []api.Key {
	long := strings.Repeat("x", 32)
	return []api.Key{
		key("a", "b"), key("a", "a"), key(long, "b"), key("a", long), key(long, long), key("\x00", "\xff"), key(" ", "\n"),
		key(strings.Repeat("\xff", 32), "\x00\x00"), key(strings.Repeat("é", 16), "日本"),
	}
}

func notKeys() []api.Key {
	long := strings.Repeat("x", 33)
	return []api.Key{
		{}, key("", "b"), key("a", ""), key(long, "b"), key("a", long), key(long, long), key("", long), key(long, ""),
		key(strings.Repeat("é", 17), "b"), key("a", strings.Repeat("日", 11)), key("a", strings.Repeat("x", 65536+1)),
	}
}

// notItems may not be.
func notItems() []api.Item {
	l := []api.Item{
		{}, {Gone: true}, {Dot: dot(1, 1)}, {Key: key("a", "b")},
		{Dot: dot(1, 1), Key: key("a", "b"), Gone: true}, {Dot: dot(1, 1), Key: key("a", ""), Gone: true}, {Dot: dot(1, 1), Key: key("", "b"), Gone: true},
	}
	for _, d := range notDots() {
		l = append(l, gone(d), live(d, "a", "b"))
	}
	for _, k := range notKeys() {
		l = append(l, api.Item{Dot: dot(1, 1), Key: k})
	}
	return l
}

// nones are those that are as a nil one is.
func nones() []*orset.Set {
	return []*orset.Set{nil, new(orset.Set)}
}

// The chapter's examples.
func TestExamples(t *testing.T) {
	s := orset.New()
	adds(t, s, key("news", "a"), dot(1, 1), live(dot(1, 1), "news", "a"))
	adds(t, s, key("news", "a"), dot(2, 1), live(dot(2, 1), "news", "a"), gone(dot(1, 1)))
	holds(t, s, context(t, dot(1, 1), dot(2, 1)), gone(dot(1, 1)), live(dot(2, 1), "news", "a"))

	s = orset.New()
	sees(t, s, true, gone(dot(3, 4)))
	sees(t, s, false, live(dot(3, 4), "news", "a"))
	holds(t, s, context(t, dot(3, 4)), gone(dot(3, 4)))
}

// P7.1

func TestNewHasSeenNothing(t *testing.T) {
	s := orset.New()
	holds(t, s, ctx.New())
	adds(t, s, key("a", "b"), dot(1, 1), live(dot(1, 1), "a", "b"))
	holds(t, orset.New(), ctx.New())
}

func TestOf(t *testing.T) {
	c := context(t, dot(1, 1), dot(1, 2), dot(1, 3), dot(2, 5), dot(16, 1<<62))
	items := []api.Item{gone(dot(1, 1)), live(dot(1, 3), "t", "d"), live(dot(2, 5), "t", "d"), gone(dot(16, 1<<62))}
	holds(t, made(t, ctx.New()), ctx.New())
	holds(t, made(t, c), c)
	holds(t, made(t, c, items...), c, items...)
	for range 24 {
		shuffle(items)
		s := made(t, c, items...)
		holds(t, s, c, byDots(items)...)
		sees(t, s, true, gone(dot(1, 3)))
		sees(t, s, false, live(dot(1, 2), "t", "d"))
	}
	for _, k := range keys() {
		holds(t, made(t, c, api.Item{Dot: dot(1, 2), Key: k}), c, api.Item{Dot: dot(1, 2), Key: k})
	}
}

func TestOfRefuses(t *testing.T) {
	c := context(t, dot(1, 1), dot(1, 2), dot(2, 3))
	good := []api.Item{live(dot(1, 2), "a", "b"), gone(dot(2, 3))}
	bad := append(notItems(),
		live(dot(1, 3), "a", "b"), gone(dot(1, 3)), live(dot(2, 1), "a", "b"), gone(dot(2, 1)), gone(dot(16, 1)),
		live(dot(1, 2), "a", "b"), live(dot(1, 2), "x", "y"), gone(dot(1, 2)), live(dot(2, 3), "a", "b"), gone(dot(2, 3)),
	)
	for _, i := range bad {
		for at := range 3 {
			l := slices.Insert(slices.Clone(good), at, i)
			if s, code := orset.Of(c, l); s != nil || code != api.ErrArg {
				t.Error(at, i, s, code)
			}
			for _, none := range []*ctx.Ctx{nil, new(ctx.Ctx)} {
				if s, code := orset.Of(none, l); s != nil || code != api.ErrNil {
					t.Error(at, i, s, code)
				}
			}
		}
	}
	for _, none := range []*ctx.Ctx{nil, new(ctx.Ctx)} {
		if s, code := orset.Of(none, nil); s != nil || code != api.ErrNil {
			t.Error(s, code)
		}
	}
}

func TestOfHasRoomForSoMany(t *testing.T) {
	c := extras(t, api.Vector{5000, 5000, 1}, nil)
	full := liveFrom(1, 1, api.MaxLive)
	holds(t, made(t, c, full...), c, full...)
	full = append(full, goneFrom(2, 1, api.MaxItems-api.MaxLive)...)
	holds(t, made(t, c, full...), c, full...)
	for _, l := range [][]api.Item{
		liveFrom(1, 1, api.MaxLive+1),
		goneFrom(1, 1, api.MaxItems+1),
		append(full, gone(dot(3, 1))),
		append(full, live(dot(3, 1), "a", "b")),
		append(liveFrom(1, 1, 1), goneFrom(2, 1, api.MaxItems)...),
	} {
		if s, code := orset.Of(c, l); s != nil || code != api.ErrFull {
			t.Error(len(l), s, code)
		}
		// What may not be comes ahead of what there is no room for.
		for _, i := range []api.Item{{}, l[0], gone(dot(4, 1))} {
			if s, code := orset.Of(c, append(l, i)); s != nil || code != api.ErrArg {
				t.Error(len(l), i, s, code)
			}
		}
	}
	none := goneFrom(2, 1, api.MaxItems)
	holds(t, made(t, c, none...), c, none...)
}

func TestMayKey(t *testing.T) {
	for _, k := range keys() {
		if !orset.MayKey(k) {
			t.Errorf("%q", k)
		}
	}
	for _, k := range notKeys() {
		if orset.MayKey(k) {
			t.Errorf("%q", k)
		}
	}
}

func TestMay(t *testing.T) {
	for _, d := range []api.Dot{dot(1, 1), dot(16, 1), dot(1, 1<<62), dot(16, 1<<62), dot(9, 77)} {
		if !orset.May(gone(d)) {
			t.Error(d)
		}
		for _, k := range keys() {
			if !orset.May(api.Item{Dot: d, Key: k}) {
				t.Errorf("%v %q", d, k)
			}
		}
	}
	for _, i := range notItems() {
		if orset.May(i) {
			t.Errorf("%v", i)
		}
	}
}

func TestBucketOf(t *testing.T) {
	for d, want := range map[api.Dot]int{
		dot(1, 1): 8, dot(1, 56): 63, dot(1, 57): 0, dot(2, 1): 15, dot(9, 1): 0, dot(9, 64): 63, dot(16, 1): 49, dot(16, 1<<62): 48, dot(1, 1<<62): 7, dot(1, 1<<62-7): 0, dot(1, 1<<62-8): 63,
	} {
		if got := orset.BucketOf(d); got != want {
			t.Error(d, got, "and not", want)
		}
	}
	for _, d := range notDots() {
		if got := orset.BucketOf(d); got != -1 {
			t.Error(d, got)
		}
	}
}

// P7.2

func TestAdd(t *testing.T) {
	s := orset.New()
	adds(t, s, key("t", "a"), dot(1, 1), live(dot(1, 1), "t", "a"))
	adds(t, s, key("t", "b"), dot(1, 2), live(dot(1, 2), "t", "b"))
	adds(t, s, key("u", "a"), dot(2, 9), live(dot(2, 9), "u", "a"))
	holds(t, s, context(t, dot(1, 1), dot(1, 2), dot(2, 9)), live(dot(1, 1), "t", "a"), live(dot(1, 2), "t", "b"), live(dot(2, 9), "u", "a"))
	adds(t, s, key("t", "a"), dot(2, 1), live(dot(2, 1), "t", "a"), gone(dot(1, 1)))
	adds(t, s, key("t", "a"), dot(1, 4), live(dot(1, 4), "t", "a"), gone(dot(2, 1)))
	holds(t, s, context(t, dot(1, 1), dot(1, 2), dot(1, 4), dot(2, 1), dot(2, 9)),
		gone(dot(1, 1)), live(dot(1, 2), "t", "b"), live(dot(1, 4), "t", "a"), gone(dot(2, 1)), live(dot(2, 9), "u", "a"))
}

// The new item is told first, wherever its dot stands; those that are gone by
// dots, in whatever order they were seen.
func TestAddEndsAllLiveDotsOfTheKey(t *testing.T) {
	k := key("t", "a")
	ends := []api.Item{gone(dot(1, 2)), gone(dot(1, 10)), gone(dot(2, 1)), gone(dot(2, 5)), gone(dot(10, 3)), gone(dot(16, 1<<62))}
	other := live(dot(2, 2), "t", "b")
	for _, d := range []api.Dot{dot(1, 1), dot(2, 3), dot(16, 1)} {
		s := orset.New()
		for _, i := range slices.Backward(ends) {
			sees(t, s, true, api.Item{Dot: i.Dot, Key: k})
		}
		sees(t, s, true, other, gone(dot(3, 3)))
		adds(t, s, k, d, append([]api.Item{{Dot: d, Key: k}}, ends...)...)
		want := append(slices.Clone(ends), other, gone(dot(3, 3)), api.Item{Dot: d, Key: k})
		holds(t, s, contextOf(t, want), byDots(want)...)
	}
}

func TestAddRefuses(t *testing.T) {
	s := seeing(t, live(dot(1, 1), "t", "a"), live(dot(1, 2), "t", "b"), gone(dot(1, 3)), gone(dot(2, 2)))
	if code := s.Collect(dot(1, 3)); code != api.OK {
		t.Fatal(code)
	}
	for _, k := range notKeys() {
		refusesAdd(t, s, k, dot(1, 4), api.ErrArg)
	}
	for _, d := range append(notDots(), dot(1, 1), dot(1, 2), dot(1, 3), dot(2, 2)) {
		refusesAdd(t, s, key("t", "a"), d, api.ErrArg)
		refusesAdd(t, s, key("", ""), d, api.ErrArg)
	}
	for _, k := range keys() {
		d := dot(3, 1)
		adds(t, s.Copy(), k, d, api.Item{Dot: d, Key: k})
	}
}

func TestRemove(t *testing.T) {
	s := orset.New()
	removes(t, s, key("t", "a"))
	holds(t, s, ctx.New())
	sees(t, s, true, live(dot(2, 3), "t", "a"), live(dot(1, 5), "t", "a"), live(dot(1, 2), "t", "a"), live(dot(1, 1), "t", "b"), live(dot(1, 3), "u", "a"), gone(dot(4, 4)))
	c := s.Ctx()
	for _, k := range []api.Key{key("a", "t"), key("t", "c"), key("u", "b"), key("v", "a")} {
		removes(t, s, k)
	}
	holds(t, s, c, live(dot(1, 1), "t", "b"), live(dot(1, 2), "t", "a"), live(dot(1, 3), "u", "a"), live(dot(1, 5), "t", "a"), live(dot(2, 3), "t", "a"), gone(dot(4, 4)))
	removes(t, s, key("t", "a"), gone(dot(1, 2)), gone(dot(1, 5)), gone(dot(2, 3)))
	holds(t, s, c, live(dot(1, 1), "t", "b"), gone(dot(1, 2)), live(dot(1, 3), "u", "a"), gone(dot(1, 5)), gone(dot(2, 3)), gone(dot(4, 4)))
	removes(t, s, key("t", "a"))
	removes(t, s, key("u", "a"), gone(dot(1, 3)))
	removes(t, s, key("t", "b"), gone(dot(1, 1)))
	holds(t, s, c, gone(dot(1, 1)), gone(dot(1, 2)), gone(dot(1, 3)), gone(dot(1, 5)), gone(dot(2, 3)), gone(dot(4, 4)))
	adds(t, s, key("t", "a"), dot(1, 4), live(dot(1, 4), "t", "a"))
}

func TestRemoveRefuses(t *testing.T) {
	s := seeing(t, live(dot(1, 1), "t", "a"), gone(dot(1, 2)))
	before := s.Copy()
	for _, k := range notKeys() {
		if got, code := s.Remove(k); got != nil || code != api.ErrArg {
			t.Errorf("%q %v %v", k, got, code)
		}
	}
	same(t, s, before)
}

// What Add and Remove tell is just what another set must see to be the same.
func TestWhatIsToldMakesAnotherOneTheSame(t *testing.T) {
	s, o := orset.New(), orset.New()
	topics, devices := []string{"t", "u"}, []string{"a", "b", "c"}
	tells := func(told []api.Item, code api.Errno) {
		t.Helper()
		if code != api.OK {
			t.Fatal(code)
		}
		sees(t, o, len(told) > 0, told...)
		same(t, o, s)
	}
	for n := range uint64(60) {
		k := key(topics[n%2], devices[n*n%3])
		tells(s.Add(k, dot(1+int(n%3), 1+n)))
		if n%7 == 3 {
			other := live(dot(5, 1+n), k.Topic, k.Device)
			sees(t, s, true, other)
			sees(t, o, true, other)
		}
		if n%5 == 4 {
			tells(s.Remove(k))
			tells(s.Remove(k))
		}
	}
}
