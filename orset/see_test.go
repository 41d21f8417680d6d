package orset_test

import (
	"slices"
	"testing"

	"minster/api"
	"minster/ctx"
	"minster/orset"
)

// P7.3

// What a dot is ahead of an item, and behind it.
func TestSeeOneItem(t *testing.T) {
	d := dot(2, 3)
	one, other, end := live(d, "t", "a"), live(d, "u", "b"), gone(d)
	collected := func() *orset.Set { return made(t, context(t, d)) }
	for i, x := range []struct {
		s       *orset.Set
		see     api.Item
		changes bool
		want    []api.Item
	}{
		{orset.New(), one, true, []api.Item{one}},
		{orset.New(), end, true, []api.Item{end}},
		{seeing(t, one), one, false, []api.Item{one}},
		{seeing(t, one), other, false, []api.Item{one}},
		{seeing(t, one), end, true, []api.Item{end}},
		{seeing(t, end), one, false, []api.Item{end}},
		{seeing(t, end), end, false, []api.Item{end}},
		{collected(), one, false, nil},
		{collected(), end, false, nil},
	} {
		sees(t, x.s, x.changes, x.see)
		holds(t, x.s, context(t, d), x.want...)
		sees(t, x.s, false, x.see)
		holds(t, x.s, context(t, d), x.want...)
		if t.Failed() {
			t.Fatal(i)
		}
	}
}

// In one call each item is seen behind those ahead of it.
func TestSeeInOrder(t *testing.T) {
	d, e := dot(1, 1), dot(16, 1<<62)
	for i, x := range []struct{ see, want []api.Item }{
		{[]api.Item{live(d, "t", "a"), live(d, "u", "b")}, []api.Item{live(d, "t", "a")}},
		{[]api.Item{live(d, "u", "b"), live(d, "t", "a"), live(d, "u", "b")}, []api.Item{live(d, "u", "b")}},
		{[]api.Item{live(d, "t", "a"), gone(d)}, []api.Item{gone(d)}},
		{[]api.Item{gone(d), live(d, "t", "a")}, []api.Item{gone(d)}},
		{[]api.Item{gone(d), live(d, "t", "a"), gone(d), live(d, "u", "a")}, []api.Item{gone(d)}},
		{[]api.Item{live(e, "t", "a"), live(d, "t", "a")}, []api.Item{live(d, "t", "a"), live(e, "t", "a")}},
		{[]api.Item{gone(e), live(d, "t", "a"), gone(e)}, []api.Item{live(d, "t", "a"), gone(e)}},
		{[]api.Item{live(e, "t", "a"), gone(d), gone(e)}, []api.Item{gone(d), gone(e)}},
	} {
		s := orset.New()
		see := slices.Clone(x.see)
		sees(t, s, true, see...)
		if !slices.Equal(see, x.see) {
			t.Error(i, "what was handed in is changed")
		}
		holds(t, s, contextOf(t, x.want), x.want...)
		sees(t, s, false, x.want...)
	}
}

// Any change counts, wherever in the list it is.
func TestSeeTellsAnyChange(t *testing.T) {
	known := []api.Item{live(dot(1, 1), "t", "a"), gone(dot(1, 2)), live(dot(2, 2), "t", "b")}
	for at := range len(known) + 1 {
		for _, i := range []api.Item{live(dot(3, 1), "t", "c"), gone(dot(3, 1)), gone(dot(1, 1)), gone(dot(2, 2))} {
			s := seeing(t, known...)
			sees(t, s, false, known...)
			sees(t, s, true, slices.Insert(slices.Clone(known), at, i)...)
			sees(t, s, false, i)
		}
	}
	s := orset.New()
	sees(t, s, false)
	sees(t, s, false, []api.Item{}...)
	holds(t, s, ctx.New())
}

func TestSeeRefusesItemsThatMayNotBe(t *testing.T) {
	s := seeing(t, live(dot(1, 1), "t", "a"), gone(dot(1, 3)))
	fresh := []api.Item{gone(dot(1, 1)), live(dot(1, 2), "t", "b"), gone(dot(2, 2))}
	for _, i := range notItems() {
		for at := range len(fresh) + 1 {
			refusesSee(t, s, api.ErrArg, slices.Insert(slices.Clone(fresh), at, i)...)
		}
		refusesSee(t, s, api.ErrArg, i)
	}
	sees(t, s, true, fresh...)
}

// P7.4

func TestCollect(t *testing.T) {
	s := seeing(t, live(dot(1, 1), "t", "a"), gone(dot(1, 2)), gone(dot(1, 4)), gone(dot(16, 1<<62)))
	c := s.Ctx()
	collects := func(d api.Dot, want api.Errno) {
		t.Helper()
		if code := s.Collect(d); code != want {
			t.Error(d, code, "and not", want)
		}
	}
	for _, d := range notDots() {
		collects(d, api.ErrArg)
	}
	for _, d := range []api.Dot{dot(1, 1), dot(1, 3), dot(1, 5), dot(2, 1)} {
		collects(d, api.ErrNone)
	}
	holds(t, s, c, live(dot(1, 1), "t", "a"), gone(dot(1, 2)), gone(dot(1, 4)), gone(dot(16, 1<<62)))
	for _, d := range []api.Dot{dot(1, 4), dot(16, 1<<62)} {
		collects(d, api.OK)
		collects(d, api.ErrNone)
	}
	holds(t, s, c, live(dot(1, 1), "t", "a"), gone(dot(1, 2)))
	// What was collected stays seen, and gone.
	sees(t, s, false, live(dot(1, 4), "t", "a"), gone(dot(1, 4)), gone(dot(16, 1<<62)))
	refusesAdd(t, s, key("t", "a"), dot(1, 4), api.ErrArg)
	collects(dot(1, 4), api.ErrNone)
	removes(t, s, key("t", "a"), gone(dot(1, 1)))
	collects(dot(1, 1), api.OK)
	collects(dot(1, 2), api.OK)
	holds(t, s, c)
}

// Where something has no room (ErrFull, of P7.2 and P7.3).

func TestRoomForSoManyLiveDots(t *testing.T) {
	full := liveFrom(1, 1, api.MaxLive)
	full[7].Key = key("u", "x")
	s := seeing(t, full...)
	holds(t, s, contextOf(t, full), full...)
	refusesAdd(t, s, key("u", "y"), dot(2, 1), api.ErrFull)
	refusesSee(t, s, api.ErrFull, live(dot(2, 1), "u", "y"))
	refusesSee(t, s, api.ErrFull, gone(dot(2, 1)), live(dot(2, 2), "u", "y"))
	refusesSee(t, orset.New(), api.ErrFull, liveFrom(1, 1, api.MaxLive+1)...)
	refusesSee(t, orset.New(), api.ErrFull, append(full, live(dot(16, 1<<62), "t", "d"))...)
	sees(t, s, false, full...)
	// The key has one already, which is gone then.
	adds(t, s, key("u", "x"), dot(2, 1), live(dot(2, 1), "u", "x"), gone(full[7].Dot))
	refusesAdd(t, s, key("u", "y"), dot(2, 2), api.ErrFull)
	sees(t, s, true, gone(dot(2, 2)))
	sees(t, s, true, gone(dot(1, 1)))
	adds(t, s, key("u", "y"), dot(2, 3), live(dot(2, 3), "u", "y"))
	refusesAdd(t, s, key("u", "z"), dot(2, 4), api.ErrFull)
	if told, code := s.Add(key("t", "d"), dot(2, 4)); len(told) != api.MaxLive-1 || code != api.OK {
		t.Error(len(told), code)
	}
	adds(t, s, key("u", "z"), dot(2, 5), live(dot(2, 5), "u", "z"))
}

// What counts is what is there when all were seen, in whatever order.
func TestRoomWhereOneGoesAndOneComes(t *testing.T) {
	full := liveFrom(1, 1, api.MaxLive)
	comes, goes := live(dot(2, 2), "u", "y"), gone(dot(1, 5))
	for _, l := range [][]api.Item{{comes, goes}, {goes, comes}, {comes, gone(dot(2, 1)), goes, comes}, {comes, live(dot(2, 1), "u", "z"), gone(dot(2, 1)), goes}} {
		s := seeing(t, full...)
		sees(t, s, true, l...)
		if k, is := s.Live(dot(2, 2)); !is || k != comes.Key || !s.Gone(dot(1, 5)) {
			t.Error(k, is)
		}
		refusesSee(t, s, api.ErrFull, live(dot(2, 3), "u", "y"))
		s = seeing(t, full...)
		refusesSee(t, s, api.ErrFull, append(l, live(dot(2, 3), "u", "y"))...)
	}
	s := orset.New()
	sees(t, s, true, append(liveFrom(1, 1, 2*api.MaxLive), goneFrom(1, 1, api.MaxLive)...)...)
	if l := s.Items(); len(l) != 2*api.MaxLive || len(s.Tombs()) != api.MaxLive {
		t.Error(len(l), len(s.Tombs()))
	}
}

func TestRoomForSoManyItems(t *testing.T) {
	full := goneFrom(1, 1, api.MaxItems)
	s := seeing(t, full...)
	holds(t, s, contextOf(t, full), full...)
	refusesSee(t, orset.New(), api.ErrFull, goneFrom(1, 1, api.MaxItems+1)...)
	refusesSee(t, orset.New(), api.ErrFull, append(liveFrom(2, 1, 1), full...)...)
	refusesSee(t, s, api.ErrFull, gone(dot(2, 1)))
	refusesSee(t, s, api.ErrFull, live(dot(2, 1), "t", "a"))
	refusesAdd(t, s, key("t", "a"), dot(2, 1), api.ErrFull)
	sees(t, s, false, full...)
	sees(t, s, false, liveFrom(1, 1, api.MaxItems)...)
	// What is collected makes room; where its dot comes again it needs none.
	if code := s.Collect(dot(1, 9)); code != api.OK {
		t.Error(code)
	}
	sees(t, s, false, full...)
	adds(t, s, key("t", "a"), dot(2, 1), live(dot(2, 1), "t", "a"))
	// One that takes another one's place is one item more.
	refusesAdd(t, s, key("t", "a"), dot(2, 2), api.ErrFull)
	removes(t, s, key("t", "a"), gone(dot(2, 1)))
	refusesAdd(t, s, key("t", "a"), dot(2, 2), api.ErrFull)
	refusesSee(t, s, api.ErrFull, gone(dot(2, 2)))
}

func TestRoomForSoManyExceptions(t *testing.T) {
	full := gaps(2, 3, api.MaxExtra)
	s := made(t, extras(t, api.Vector{3}, full), live(dot(1, 2), "t", "a"), live(full[0], "t", "b"), gone(full[9]))
	for _, d := range []api.Dot{dot(1, 6), dot(2, 4), dot(3, 2), dot(16, 1<<62)} {
		refusesAdd(t, s, key("t", "a"), d, api.ErrFull)
		refusesSee(t, s, api.ErrFull, gone(d))
		refusesSee(t, s, api.ErrFull, gone(dot(1, 2)), live(d, "t", "c"))
		refusesSee(t, s, api.ErrFull, gone(d), live(dot(1, 4), "t", "c"))
	}
	// The next ones need no room, nor do those that are there.
	sees(t, s, true, gone(full[0]))
	sees(t, s, false, live(full[77], "t", "c"))
	adds(t, s, key("t", "a"), dot(1, 4), live(dot(1, 4), "t", "a"), gone(dot(1, 2)))
	sees(t, s, true, gone(dot(3, 1)))
	want := []api.Item{gone(dot(1, 2)), live(dot(1, 4), "t", "a"), gone(full[0]), gone(full[9]), gone(dot(3, 1))}
	holds(t, s, extras(t, api.Vector{4, 0, 1}, full), want...)
}

// Some dots of a list make the room that others of it need: the list is seen in
// whatever order.
func TestRoomThatIsMadeByTheSameList(t *testing.T) {
	full := gaps(2, 3, api.MaxExtra)
	for range 24 {
		c := extras(t, api.Vector{}, full)
		l := []api.Item{gone(dot(2, 1)), live(dot(2, 2), "t", "a"), gone(dot(2, 4)), live(dot(1, 7), "t", "b"), gone(dot(16, 3))}
		shuffle(l)
		s := made(t, c)
		sees(t, s, true, l...)
		want := extras(t, api.Vector{0, 5}, append(append([]api.Dot{dot(1, 7)}, full[2:]...), dot(16, 3)))
		holds(t, s, want, byDots(l)...)
		refusesSee(t, s, api.ErrFull, gone(dot(2, 1)), gone(dot(5, 5)))
		s = made(t, c)
		l = append(l, live(dot(9, 9), "t", "c"))
		shuffle(l)
		refusesSee(t, s, api.ErrFull, l...)
		holds(t, s, c)
	}
}

// What may not be comes ahead of what has no room, wherever it stands.
func TestErrArgIsAheadOfErrFull(t *testing.T) {
	many := make([]api.Item, 0, api.MaxItems+2)
	many = append(many, goneFrom(1, 1, api.MaxItems+1)...)
	for _, i := range notItems() {
		refusesSee(t, orset.New(), api.ErrArg, append(many, i)...)
		refusesSee(t, orset.New(), api.ErrArg, append([]api.Item{i}, many...)...)
	}
	s := seeing(t, liveFrom(1, 1, api.MaxLive)...)
	for _, d := range append(notDots(), dot(1, 1)) {
		refusesAdd(t, s, key("u", "a"), d, api.ErrArg)
	}
	for _, k := range notKeys() {
		refusesAdd(t, s, k, dot(2, 1), api.ErrArg)
	}
}
