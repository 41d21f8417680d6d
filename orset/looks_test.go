package orset_test

import (
	"cmp"
	"math/rand/v2"
	"slices"
	"testing"

	"minster/api"
	"minster/ctx"
	"minster/orset"
)

// source is the tests' own: the same at each run.
var source = rand.New(rand.NewPCG(7, 1))

func shuffle(l []api.Item) {
	source.Shuffle(len(l), func(i, j int) { l[i], l[j] = l[j], l[i] })
}

func dotsInTurn(a, b api.Dot) int {
	return cmp.Or(cmp.Compare(a.Region, b.Region), cmp.Compare(a.Count, b.Count))
}

func byDots(l []api.Item) []api.Item {
	return slices.SortedFunc(slices.Values(l), func(a, b api.Item) int { return dotsInTurn(a.Dot, b.Dot) })
}

// contextOf is of just the items' dots.
func contextOf(t *testing.T, l []api.Item) *ctx.Ctx {
	t.Helper()
	c := ctx.New()
	for _, i := range byDots(l) {
		if _, code := c.Add(i.Dot); code != api.OK {
			t.Fatal("Add", i.Dot, code)
		}
	}
	return c
}

// holds wants a set that answers all as it follows from its context and its
// items, which are by dots.
func holds(t *testing.T, s *orset.Set, c *ctx.Ctx, items ...api.Item) {
	t.Helper()
	if got := s.Ctx(); !got.Same(c) {
		t.Errorf("context %v and %d, not %v and %d", got.Vector(), len(got.Extra()), c.Vector(), len(c.Extra()))
	}
	if got := s.Items(); !slices.Equal(got, items) {
		if len(got)+len(items) > 100 {
			t.Fatalf("%d items, not %d, or others", len(got), len(items))
		}
		t.Fatalf("items %v, not %v", got, items)
	}
	holdsDots(t, s, c, items)
	holdsBuckets(t, s, items)
	holdsKeys(t, s, items)
}

func holdsDots(t *testing.T, s *orset.Set, c *ctx.Ctx, items []api.Item) {
	t.Helper()
	var tombs []api.Dot
	is := map[api.Dot]api.Key{}
	for _, i := range items {
		if i.Gone {
			tombs = append(tombs, i.Dot)
		} else {
			is[i.Dot] = i.Key
		}
	}
	if got := s.Tombs(); !slices.Equal(got, tombs) {
		t.Errorf("tombstones %v, not %v", got, tombs)
	}
	ask := append(c.Extra(), notDots()...)
	for _, i := range items {
		ask = append(ask, i.Dot, dot(i.Dot.Region, i.Dot.Count+1))
	}
	for i, n := range c.Vector() {
		for count := range min(n, 10) + 2 {
			ask = append(ask, dot(i+1, count))
		}
	}
	for _, d := range ask {
		want, live := is[d]
		if k, got := s.Live(d); got != live || k != want {
			t.Fatal("Live", d, k, got)
		}
		if got := s.Gone(d); got != (c.Has(d) && !live) {
			t.Fatal("Gone", d, got)
		}
	}
}

func holdsBuckets(t *testing.T, s *orset.Set, items []api.Item) {
	t.Helper()
	for n := range 64 {
		var want []api.Item
		for _, i := range items {
			if (i.Dot.Region*7+int(i.Dot.Count%64))%64 == n {
				want = append(want, i)
			}
		}
		if got, code := s.Bucket(n); code != api.OK || !slices.Equal(got, want) {
			t.Errorf("bucket %d: %d, not %d, or others: %v", n, len(got), len(want), code)
		}
	}
	for _, n := range []int{-1, 64, 65, -64, 128} {
		if got, code := s.Bucket(n); got != nil || code != api.ErrArg {
			t.Error("bucket", n, got, code)
		}
	}
}

func holdsKeys(t *testing.T, s *orset.Set, items []api.Item) {
	t.Helper()
	var keys []api.Key
	dests := map[string][]api.Dest{"": nil, "none": nil}
	for _, i := range items {
		if !i.Gone {
			dests[i.Key.Topic] = append(dests[i.Key.Topic], api.Dest{Dot: i.Dot, Device: i.Key.Device})
			keys = append(keys, i.Key)
		}
	}
	slices.SortFunc(keys, func(a, b api.Key) int { return cmp.Or(cmp.Compare(a.Topic, b.Topic), cmp.Compare(a.Device, b.Device)) })
	keys = slices.Compact(keys)
	if got := s.Keys(); !slices.Equal(got, keys) {
		t.Errorf("keys %v, not %v", got, keys)
	}
	for _, k := range keys {
		if !s.Has(k) {
			t.Error("Has", k)
		}
		for _, other := range []api.Key{key(k.Topic, k.Device+"'"), key(k.Device, k.Topic), key(k.Topic, ""), key("", k.Device), {}} {
			if got := s.Has(other); got != slices.Contains(keys, other) {
				t.Error("Has", other, got)
			}
		}
	}
	for topic, want := range dests {
		if got := s.Dests(topic); !slices.Equal(got, want) {
			t.Errorf("Dests of %q: %v, not %v", topic, got, want)
		}
	}
}

// P7.5

// Orders: by numbers, not by digits; by bytes, not by letters; the topic ahead
// of the device.
func TestLooks(t *testing.T) {
	items := []api.Item{
		live(dot(1, 2), "b", "a"), live(dot(1, 10), "a", "b"), gone(dot(1, 11)), live(dot(2, 1), "a", "b"), live(dot(2, 5), "a", "a"), live(dot(3, 1), "ab", "c"),
		live(dot(3, 2), "a", "bc"), live(dot(3, 3), "B", "x"), live(dot(9, 1), "\xff", "\x00"), gone(dot(9, 2)), live(dot(10, 1), "a", "c"), live(dot(16, 1<<62), "é", "a"),
	}
	for range 24 {
		l := slices.Clone(items)
		shuffle(l)
		s := orset.New()
		for _, i := range l {
			sees(t, s, true, i)
		}
		holds(t, s, contextOf(t, items), items...)
	}
	s := seeing(t, items...)
	if got := s.Keys(); !slices.Equal(got, []api.Key{
		key("B", "x"), key("a", "a"), key("a", "b"), key("a", "bc"), key("a", "c"), key("ab", "c"), key("b", "a"), key("é", "a"), key("\xff", "\x00"),
	}) {
		t.Errorf("%q", got)
	}
	if got := s.Dests("a"); !slices.Equal(got, []api.Dest{
		{Dot: dot(1, 10), Device: "b"}, {Dot: dot(2, 1), Device: "b"}, {Dot: dot(2, 5), Device: "a"}, {Dot: dot(3, 2), Device: "bc"}, {Dot: dot(10, 1), Device: "c"},
	}) {
		t.Error(got)
	}
	if got := s.Tombs(); !slices.Equal(got, []api.Dot{dot(1, 11), dot(9, 2)}) {
		t.Error(got)
	}
	removes(t, s, key("a", "b"), gone(dot(1, 10)), gone(dot(2, 1)))
	if s.Has(key("a", "b")) || !s.Has(key("a", "bc")) || len(s.Dests("a")) != 3 {
		t.Error("a key that was given up")
	}
}

// A bucket has dots of several regions.
func TestBucket(t *testing.T) {
	l := []api.Item{gone(dot(1, 57)), live(dot(1, 121), "t", "a"), live(dot(2, 50), "t", "b"), gone(dot(9, 1)), live(dot(16, 16), "t", "a")}
	s := seeing(t, append(l, gone(dot(1, 58)), live(dot(1, 56), "t", "a"))...)
	for n, want := range map[int][]api.Item{0: l, 1: {gone(dot(1, 58))}, 63: {live(dot(1, 56), "t", "a")}, 2: nil} {
		if got, code := s.Bucket(n); code != api.OK || !slices.Equal(got, want) {
			t.Error(n, got, code)
		}
	}
}

func TestCopyGoesOnApart(t *testing.T) {
	items := []api.Item{live(dot(1, 1), "t", "a"), gone(dot(1, 3)), live(dot(2, 2), "t", "b")}
	s := seeing(t, items...)
	o := s.Copy()
	if o == s {
		t.Error("itself")
	}
	same(t, s, o)
	removes(t, o, key("t", "a"), gone(dot(1, 1)))
	adds(t, o, key("t", "c"), dot(1, 2), live(dot(1, 2), "t", "c"))
	if code := o.Collect(dot(1, 3)); code != api.OK {
		t.Error(code)
	}
	holds(t, s, contextOf(t, items), items...)
	adds(t, s, key("t", "b"), dot(5, 5), live(dot(5, 5), "t", "b"), gone(dot(2, 2)))
	if code := s.Collect(dot(2, 2)); code != api.OK {
		t.Error(code)
	}
	holds(t, o, context(t, dot(1, 1), dot(1, 2), dot(1, 3), dot(2, 2)), gone(dot(1, 1)), live(dot(1, 2), "t", "c"), live(dot(2, 2), "t", "b"))
	empty := orset.New()
	o = empty.Copy()
	sees(t, o, true, items...)
	holds(t, empty, ctx.New())
}

// What is answered and what was handed in is nobody else's.
func TestWhatIsHandedInAndOutStays(t *testing.T) {
	items := []api.Item{gone(dot(1, 1)), live(dot(1, 3), "t", "a"), live(dot(2, 2), "t", "b"), live(dot(16, 1), "u", "a")}
	c := contextOf(t, items)
	given := slices.Clone(items)
	s := made(t, c, given...)
	given[1] = live(dot(9, 9), "x", "y")
	c.Add(dot(1, 2))
	holds(t, s, contextOf(t, items), items...)

	for i, spoil := range []func(){
		func() { s.Ctx().Add(dot(1, 2)) },
		func() { clear(s.Items()) },
		func() { clear(s.Tombs()) },
		func() { clear(s.Keys()) },
		func() { clear(s.Dests("t")) },
		func() { b, _ := s.Bucket(orset.BucketOf(dot(1, 3))); clear(b) },
	} {
		spoil()
		holds(t, s, contextOf(t, items), items...)
		if t.Failed() {
			t.Fatal(i)
		}
	}

	told, tombs, all, then := s.Keys(), s.Tombs(), s.Items(), s.Ctx()
	got, _ := s.Add(key("t", "a"), dot(1, 2))
	clear(got)
	got, _ = s.Remove(key("t", "b"))
	clear(got)
	s.Collect(dot(1, 1))
	want := []api.Item{live(dot(1, 2), "t", "a"), gone(dot(1, 3)), gone(dot(2, 2)), live(dot(16, 1), "u", "a")}
	holds(t, s, c, want...)
	if len(told) != 3 || len(tombs) != 1 || !slices.Equal(all, items) || then.Has(dot(1, 2)) {
		t.Error("what was answered is changed")
	}
}

// Nil ones, and zero ones: ErrNil is ahead of all other errors.
func TestNil(t *testing.T) {
	for i, s := range nones() {
		for _, k := range []api.Key{{}, key("t", "a")} {
			if l, code := s.Add(k, dot(1, 1)); l != nil || code != api.ErrNil {
				t.Error(i, l, code)
			}
			if l, code := s.Add(k, api.Dot{}); l != nil || code != api.ErrNil {
				t.Error(i, l, code)
			}
			if l, code := s.Remove(k); l != nil || code != api.ErrNil {
				t.Error(i, l, code)
			}
			if s.Has(k) || len(s.Dests(k.Topic)) != 0 {
				t.Error(i, k)
			}
		}
		for _, l := range [][]api.Item{nil, {gone(dot(1, 1))}, {{}}, goneFrom(1, 1, api.MaxItems+1)} {
			if changed, code := s.See(l...); changed || code != api.ErrNil {
				t.Error(i, changed, code)
			}
		}
		for _, d := range []api.Dot{{}, dot(1, 1)} {
			if code := s.Collect(d); code != api.ErrNil {
				t.Error(i, code)
			}
			if k, is := s.Live(d); is || k != (api.Key{}) || s.Gone(d) {
				t.Error(i, d)
			}
		}
		for _, n := range []int{-1, 0, 63, 64} {
			if l, code := s.Bucket(n); l != nil || code != api.ErrNil {
				t.Error(i, l, code)
			}
		}
		if len(s.Keys())+len(s.Items())+len(s.Tombs()) != 0 || s.Ctx() != nil || s.Copy() != nil {
			t.Error(i, "something is there")
		}
	}
}
