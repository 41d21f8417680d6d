package net_test

import (
	"math"
	"slices"
	"testing"

	"minster/api"
)

// P12.3

// By From, then To, then as they were sent, whatever that was.
func TestAllGoesByTurns(t *testing.T) {
	n := made(t, 16)
	for _, f := range []api.Flight{
		flight(16, 1, "k"), flight(2, 16, "g"), flight(10, 2, "i"), flight(1, 16, "d"), flight(2, 1, "e"),
		flight(1, 2, "b"), flight(10, 11, "j"), flight(2, 3, "f"), flight(1, 10, "c"), flight(1, 2, "a"), flight(9, 16, "h"),
	} {
		is(t, n.Send(f.From, f.To, f.Bytes), api.OK)
	}
	want := []api.Flight{
		flight(1, 2, "b"), flight(1, 2, "a"), flight(1, 10, "c"), flight(1, 16, "d"), flight(2, 1, "e"), flight(2, 3, "f"),
		flight(2, 16, "g"), flight(9, 16, "h"), flight(10, 2, "i"), flight(10, 11, "j"), flight(16, 1, "k"),
	}
	for range 20 {
		has(t, n, want...)
	}
}

func TestAllMayBeLeft(t *testing.T) {
	n, l := three(t)
	all := n.All()
	for stop := range len(l) + 1 {
		var got []api.Flight
		for place, f := range all {
			if place != len(got) {
				t.Error(place, len(got))
			}
			if len(got) == stop {
				break
			}
			got = append(got, f)
		}
		if !slices.EqualFunc(got, l[:stop], same) {
			t.Error(stop, got)
		}
	}
	for place := range all { // one within the other
		inner := 0
		for range all {
			inner++
		}
		if inner != len(l) {
			t.Error(place, inner)
		}
	}
	has(t, n, l...)
}

func TestAllIsAsItWasWhenCalled(t *testing.T) {
	n, l := three(t)
	all := n.All()
	still := func() {
		t.Helper()
		i := 0
		for place, f := range all {
			if place != i || i >= len(l) || !same(f, l[i]) {
				t.Fatal(place, i, f)
			}
			i++
		}
		if i != len(l) {
			t.Fatal(i)
		}
	}
	takes(t, n, 0, l[0])
	still()
	takes(t, n, 10, l[11]) // the last of its line
	is(t, n.Send(3, 2, []byte("x")), api.OK)
	still()
	is(t, n.Drop(3), api.OK) // amidst
	is(t, n.Double(2), api.OK)
	is(t, n.Send(1, 3, []byte("y")), api.OK)
	still()
	n.Clear(2)
	n.Clear(1)
	n.Clear(3)
	is(t, n.Send(1, 2, []byte("z")), api.OK)
	still()
	has(t, n, flight(1, 2, "z"))
}

// What is gone over may be changed meanwhile: it is gone over as it was.
func TestWhatIsGoneOverMayBeChanged(t *testing.T) {
	n, l := three(t)
	var got []api.Flight
	for _, f := range n.All() {
		got = append(got, f)
		takes(t, n, n.Len()-1, l[n.Len()-1])
	}
	if !slices.EqualFunc(got, l, same) {
		t.Error(got)
	}
	has(t, n)
	n, l = three(t)
	got = nil
	for place, f := range n.All() {
		got = append(got, f)
		is(t, n.Double(2*place), api.OK)
		is(t, n.Send(3, 1, []byte("x")), api.OK)
	}
	if !slices.EqualFunc(got, l, same) {
		t.Error(got)
	}
}

func TestLenAndLine(t *testing.T) {
	n := made(t, 3)
	for i := range 5 {
		if n.Len() != 2*i || n.Line(1, 2) != i || n.Line(3, 2) != i || n.Line(2, 1) != 0 {
			t.Error(i, n.Len(), n.Line(1, 2), n.Line(3, 2), n.Line(2, 1))
		}
		is(t, n.Send(1, 2, nil), api.OK)
		is(t, n.Send(3, 2, nil), api.OK)
	}
	is(t, n.Drop(0), api.OK)
	is(t, n.Double(9-1), api.OK)
	if n.Len() != 10 || n.Line(1, 2) != 4 || n.Line(3, 2) != 6 {
		t.Error(n.Len(), n.Line(1, 2), n.Line(3, 2))
	}
	for _, end := range []int{math.MinInt, -1, 0, 4, 16, 17, math.MaxInt} {
		if n.Line(1, end) != 0 || n.Line(end, 2) != 0 || n.Line(end, end) != 0 {
			t.Error(end)
		}
	}
	if n.Line(1, 1) != 0 || n.Line(2, 2) != 0 {
		t.Error("from one to itself")
	}
}

func TestClear(t *testing.T) {
	for _, c := range []struct{ end, gone int }{{1, 3}, {2, 6}, {3, 3}} {
		n, l := three(t)
		if got := n.Clear(c.end); got != c.gone {
			t.Error(c.end, got)
		}
		left := slices.DeleteFunc(l, func(f api.Flight) bool { return f.To == c.end })
		has(t, n, left...)
		if got := n.Clear(c.end); got != 0 {
			t.Error(c.end, got, "at the second time")
		}
		has(t, n, left...)
		lost(t, n, 0)
	}
}

func TestClearOfNoEnd(t *testing.T) {
	n, l := three(t)
	for _, end := range []int{math.MinInt, -1, 0, 4, 16, 17, math.MaxInt} {
		if got := n.Clear(end); got != 0 {
			t.Error(end, got)
		}
	}
	has(t, n, l...)
}

func TestClearGivesRoom(t *testing.T) {
	n, l := full(t, 3, 1, 2)
	is(t, n.Send(1, 2, nil), api.ErrFull)
	if n.Clear(1) != 0 || n.Clear(2) != len(l) {
		t.Error("Clear")
	}
	has(t, n)
	lost(t, n, 1) // what was lost was, and what is cleared was not refused
	for range api.MaxFlight {
		is(t, n.Send(1, 2, nil), api.OK)
	}
	is(t, n.Send(1, 2, nil), api.ErrFull)
	lost(t, n, 2)
}

func TestCopyGoesOnApart(t *testing.T) {
	n, l := three(t)
	o := n.Copy()
	has(t, o, l...)
	takes(t, o, 0, l[0])
	is(t, o.Send(1, 2, []byte("x")), api.OK)
	is(t, o.Double(3), api.OK)
	has(t, n, l...)
	has(t, o, l[1], l[2], flight(1, 2, "x"), l[3], l[4], l[5], l[3], l[6], l[7], l[8], l[9], l[10], l[11])
	is(t, n.Send(1, 2, []byte("y")), api.OK)
	is(t, n.Send(1, 3, []byte("z")), api.OK)
	has(t, n, l[0], l[1], l[2], flight(1, 2, "y"), flight(1, 3, "z"), l[3], l[4], l[5], l[6], l[7], l[8], l[9], l[10], l[11])
	if n.Clear(1)+n.Clear(2)+n.Clear(3) != 14 || o.Len() != 13 {
		t.Error(n.Len(), o.Len())
	}
	has(t, n)
}

// Two that were one send to the end of one line.
func TestCopiesDoNotShareTheirLines(t *testing.T) {
	for size := range 20 {
		n := made(t, 2)
		for range size {
			is(t, n.Send(1, 2, []byte("a")), api.OK)
		}
		o, p := n.Copy(), n.Copy()
		is(t, n.Send(1, 2, []byte("n")), api.OK)
		is(t, o.Send(1, 2, []byte("o")), api.OK)
		is(t, p.Double(0), map[bool]api.Errno{true: api.ErrNone}[size == 0])
		at(t, n, size, flight(1, 2, "n"))
		at(t, o, size, flight(1, 2, "o"))
		if size > 0 {
			at(t, p, size, flight(1, 2, "a"))
		}
	}
}

func TestCopyHasTheSameEndsAndLost(t *testing.T) {
	n, l := full(t, 2, 1, 2)
	is(t, n.Send(1, 2, nil), api.ErrFull)
	o := n.Copy()
	lost(t, o, 1)
	has(t, o, l...)
	is(t, o.Send(1, 2, nil), api.ErrFull)
	is(t, o.Send(1, 3, nil), api.ErrArg)
	is(t, o.Send(2, 1, nil), api.OK)
	lost(t, o, 2)
	lost(t, n, 1)
	has(t, n, l...)
	has(t, o.Copy(), append(slices.Clone(l), flight(2, 1, ""))...)
}
