package cast_test

import (
	"math"
	"slices"
	"testing"

	"minster/api"
	"minster/event"
)

// P13.3

// By region, then count, as numbers, in whatever order they came.
func TestHeldStandsByID(t *testing.T) {
	c := made(t, 16, 1)
	l := []api.Event{
		ev(1, 2), ev(1, 10), ev(1, 256), ev(1, 1<<40), ev(2, 3), ev(2, 1<<62), ev(9, 2), ev(10, 2), ev(10, 9), ev(16, 2),
	}
	for _, i := range []int{8, 3, 0, 9, 5, 1, 6, 2, 7, 4} {
		offers(t, c, l[i])
	}
	for range 20 {
		holds(t, c, l)
	}
}

func TestAtTellsTheVectorBehind(t *testing.T) {
	c := made(t, 3, 3)
	offers(t, c, ev(2, 1), ev(2, 1))
	publishes(t, c, ev(3, 1, 0, 1))
	offers(t, c, ev(1, 2))
	offers(t, c, ev(1, 1), ev(1, 1), ev(1, 2))
	for i, want := range []api.Vector{{0, 1}, {0, 1, 1}, {1, 1, 1}, {2, 1, 1}} {
		if _, v, is := c.At(i); !is || v != want {
			t.Error(i, v, is)
		}
	}
	if _, v, is := c.At(4); is || v != (api.Vector{}) {
		t.Error(v, is)
	}
}

func TestMissing(t *testing.T) {
	c := made(t, 3, 1)
	l := []api.Event{ev(1, 1), ev(2, 1), ev(1, 2), ev(3, 1), ev(2, 2, 2), ev(1, 3)}
	for _, e := range l {
		offers(t, c, e, e)
	}
	offers(t, c, ev(2, 4)) // what is held back is not in the log
	for _, x := range []struct {
		v    api.Vector
		want []api.Event
	}{
		{api.Vector{}, l},
		{api.Vector{1}, l[1:]},
		{api.Vector{1, 1}, l[2:]},
		{api.Vector{2, 1, 1}, l[4:]},
		{api.Vector{0, 2}, []api.Event{l[0], l[2], l[3], l[5]}},
		{api.Vector{0, 0, 1}, []api.Event{l[0], l[1], l[2], l[4], l[5]}},
		{api.Vector{3, 2, 1}, nil},
		{api.Vector{2, 2, 1}, l[5:]},
		{api.Vector{0, 1<<62 + 1, math.MaxUint64}, []api.Event{l[0], l[2], l[5]}},
		{api.Vector{3, 2, 0, 7, 7, 7}, l[3:4]},
	} {
		for most := range len(l) + 3 {
			misses(t, c, x.v, most, x.want[:min(most, len(x.want))]...)
		}
		misses(t, c, x.v, math.MaxInt, x.want...)
		for _, most := range []int{-1, -2, math.MinInt} {
			if got, code := c.Missing(x.v, most); code != api.ErrArg || len(got) != 0 {
				t.Error(most, ids(got), code)
			}
		}
	}
	holds(t, c, []api.Event{ev(2, 4)}, l...)
}

func TestCopyGoesOnApart(t *testing.T) {
	c := made(t, 3, 1)
	publishes(t, c, ev(1, 1))
	offers(t, c, ev(2, 2))
	o := c.Copy()
	if o == c {
		t.Error("itself")
	}
	holds(t, o, []api.Event{ev(2, 2)}, ev(1, 1))
	publishes(t, o, ev(1, 2))
	offers(t, o, ev(2, 1), ev(2, 1), ev(2, 2))
	offers(t, o, ev(3, 2))
	holds(t, c, []api.Event{ev(2, 2)}, ev(1, 1))
	offers(t, c, ev(3, 1), ev(3, 1))
	publishes(t, c, ev(1, 2, 0, 0, 1))
	offers(t, c, ev(2, 4))
	holds(t, c, []api.Event{ev(2, 2), ev(2, 4)}, ev(1, 1), ev(3, 1), ev(1, 2, 0, 0, 1))
	holds(t, o, []api.Event{ev(3, 2)}, ev(1, 1), ev(1, 2), ev(2, 1), ev(2, 2))
	refuses(t, o, ev(4, 1), api.ErrArg) // as many regions
}

// Several that were one apply different ones behind one log.
func TestCopiesDoNotShareTheirLogs(t *testing.T) {
	for size := range uint64(20) {
		c := made(t, 3, 1)
		var log []api.Event
		for i := range size {
			publishes(t, c, ev(1, i+1))
			log = append(log, ev(1, i+1))
		}
		o, p := c.Copy(), c.Copy()
		publishes(t, c, ev(1, size+1))
		offers(t, o, ev(2, 1, size), ev(2, 1, size))
		offers(t, p, ev(3, 1), ev(3, 1))
		holds(t, c, nil, append(slices.Clone(log), ev(1, size+1))...)
		holds(t, o, nil, append(slices.Clone(log), ev(2, 1, size))...)
		holds(t, p, nil, append(slices.Clone(log), ev(3, 1))...)
	}
}

// As many are held back in a copy as in the other one.
func TestCopyOfAFullOne(t *testing.T) {
	c, l := full(t)
	o := c.Copy()
	refuses(t, o, ev(2, 300), api.ErrFull)
	offers(t, c, ev(3, 1), append([]api.Event{ev(3, 1)}, l...)...)
	refuses(t, o, ev(2, 300), api.ErrFull)
	holds(t, o, l)
	holds(t, c, nil, append([]api.Event{ev(3, 1)}, l...)...)
}

// spoil changes all of an event that can be shared, behind its lists' ends, too.
func spoil(e api.Event) {
	for _, b := range [][]byte{e.Payload, append(e.Payload, 9)} {
		for i := range b {
			b[i]++
		}
	}
	for _, l := range [][]api.Dest{e.To, append(e.To, api.Dest{})} {
		for i := range l {
			l[i].Device += "!"
			l[i].Dot.Count++
		}
	}
}

// roomy is an event whose lists have room behind them.
func roomy(e api.Event) api.Event {
	e.Payload = append(make([]byte, 0, 64), e.Payload...)
	e.To = append(make([]api.Dest, 0, 64), e.To...)
	return e
}

func TestWhatIsHandedInStaysTheCallers(t *testing.T) {
	c := made(t, 2, 1)
	now, late, own := roomy(ev(2, 1)), roomy(ev(2, 3)), roomy(ev(1, 1, 0, 1))
	offers(t, c, now, now)
	offers(t, c, late)
	publishes(t, c, own)
	for _, x := range [][2]api.Event{{now, ev(2, 1)}, {late, ev(2, 3)}, {own, ev(1, 1, 0, 1)}} {
		if !event.Same(x[0], x[1]) {
			t.Error("changed:", x[0])
		}
		spoil(x[0])
	}
	holds(t, c, []api.Event{ev(2, 3)}, ev(2, 1), ev(1, 1, 0, 1))
	offers(t, c, ev(2, 2), ev(2, 2), ev(2, 3))
}

// Nor does the answer share any of it.
func TestWhatIsAnsweredIsNotWhatIsHandedIn(t *testing.T) {
	c := made(t, 2, 1)
	own, now := roomy(ev(1, 1)), roomy(ev(2, 1))
	e, _ := c.Publish(own.Topic, own.Payload, own.To)
	spoil(e)
	l, _ := c.Offer(now)
	same(t, "Offer", l, []api.Event{now})
	spoil(l[0])
	same(t, "handed in", []api.Event{own, now}, []api.Event{ev(1, 1), ev(2, 1)})
	holds(t, c, nil, own, now)
}

// What is answered is new memory each time, and in each copy.
func TestWhatIsAnsweredIsTheCallers(t *testing.T) {
	c := made(t, 2, 1)
	e, _ := c.Publish("t", ev(1, 1).Payload, ev(1, 1).To)
	spoil(e)
	offers(t, c, ev(2, 2))
	l, _ := c.Offer(ev(2, 1))
	log := []api.Event{ev(1, 1), ev(2, 1), ev(2, 2)}
	o := c.Copy()
	held := []api.Event{ev(2, 5)}
	offers(t, c, held[0])
	for i := range 3 {
		for _, e := range l {
			spoil(e)
		}
		holds(t, c, held, log...)
		l, _ = c.Missing(api.Vector{}, 3)
		l = append(append(append(l, c.Log()...), c.Held()...), c.Log()...)
		e, _, _ := c.At(i)
		spoil(e)
	}
	holds(t, c, held, log...)
	holds(t, o, nil, log...)
}

// No two lists of one answer share memory: those behind one another stand apart.
func TestListsOfOneAnswerAreApart(t *testing.T) {
	c := made(t, 2, 1)
	want := []api.Event{ev(2, 1), ev(2, 2), ev(2, 3)}
	offers(t, c, want[2])
	offers(t, c, want[1])
	held := c.Held()
	applied, _ := c.Offer(want[0])
	missing, _ := c.Missing(api.Vector{}, 3)
	for _, l := range [][]api.Event{applied, missing, c.Log()} {
		for i := range l {
			same(t, "behind it", l[i:], want[i:])
			spoil(l[i])
		}
	}
	spoil(held[0])
	same(t, "behind it", held[1:], want[2:])
}
