package net_test

import (
	"bytes"
	"math"
	"slices"
	"testing"

	"minster/api"
	"minster/net"
)

// made is a net that must be one.
func made(t *testing.T, ends int) *net.Net {
	t.Helper()
	n, code := net.New(ends)
	if n == nil || code != api.OK {
		t.Fatal("New", ends, code)
	}
	return n
}

// of is a net in which these were sent, in turn.
func of(t *testing.T, ends int, l ...api.Flight) *net.Net {
	t.Helper()
	n := made(t, ends)
	for _, f := range l {
		is(t, n.Send(f.From, f.To, f.Bytes), api.OK)
	}
	return n
}

func is(t *testing.T, got, want api.Errno) {
	t.Helper()
	if got != want {
		t.Errorf("answered %d, not %d", got, want)
	}
}

func flight(from, to int, b string) api.Flight {
	return api.Flight{From: from, To: to, Bytes: []byte(b)}
}

func same(a, b api.Flight) bool {
	return a.From == b.From && a.To == b.To && bytes.Equal(a.Bytes, b.Bytes)
}

// goes wants All to go over just these, with their places.
func goes(t *testing.T, n *net.Net, l ...api.Flight) {
	t.Helper()
	next := 0
	for place, f := range n.All() {
		if next == len(l) {
			t.Fatalf("a flight too many: %d %d %q", f.From, f.To, f.Bytes)
		}
		if place != next || !same(f, l[next]) {
			t.Fatalf("at %d: %d %d %q, not at %d: %d %d %q", place, f.From, f.To, f.Bytes, next, l[next].From, l[next].To, l[next].Bytes)
		}
		next++
	}
	if next != len(l) {
		t.Fatalf("%d flights, not %d", next, len(l))
	}
}

// has wants just these to be in flight, whichever way one looks.
func has(t *testing.T, n *net.Net, l ...api.Flight) {
	t.Helper()
	goes(t, n, l...)
	lines := map[[2]int]int{}
	for place, f := range l {
		at(t, n, place, f)
		lines[[2]int{f.From, f.To}]++
	}
	none(t, n, len(l), api.ErrNone)
	if n.Len() != len(l) {
		t.Errorf("Len: %d, not %d", n.Len(), len(l))
	}
	for from := -1; from <= api.MaxRegions+1; from++ {
		for to := -1; to <= api.MaxRegions+1; to++ {
			if got, want := n.Line(from, to), lines[[2]int{from, to}]; got != want {
				t.Errorf("Line(%d, %d): %d, not %d", from, to, got, want)
			}
		}
	}
}

func at(t *testing.T, n *net.Net, place int, want api.Flight) {
	t.Helper()
	if f, code := n.At(place); code != api.OK || !same(f, want) {
		t.Errorf("At(%d): %d %d %q, %d", place, f.From, f.To, f.Bytes, code)
	}
}

func takes(t *testing.T, n *net.Net, place int, want api.Flight) {
	t.Helper()
	if f, code := n.Take(place); code != api.OK || !same(f, want) {
		t.Errorf("Take(%d): %d %d %q, %d", place, f.From, f.To, f.Bytes, code)
	}
}

// none wants whatever names a place to be refused there, and nothing beside the
// error.
func none(t *testing.T, n *net.Net, place int, want api.Errno) {
	t.Helper()
	for i, look := range []func(int) (api.Flight, api.Errno){n.At, n.Take} {
		if f, code := look(place); code != want || f.From != 0 || f.To != 0 || len(f.Bytes) != 0 {
			t.Error(i, place, f, code)
		}
	}
	is(t, n.Drop(place), want)
	is(t, n.Double(place), want)
}

func lost(t *testing.T, n *net.Net, want int) {
	t.Helper()
	if n.Lost() != want {
		t.Errorf("Lost: %d, not %d", n.Lost(), want)
	}
}

// nones are those that are as a nil one is.
func nones() []*net.Net {
	return []*net.Net{nil, new(net.Net)}
}

// full is a net of which one line has all that it may have.
func full(t *testing.T, ends, from, to int) (*net.Net, []api.Flight) {
	t.Helper()
	var l []api.Flight
	for i := range api.MaxFlight {
		l = append(l, flight(from, to, string([]byte{byte(i)})))
	}
	return of(t, ends, l...), l
}

// The chapter's examples, in turn.
func TestExamples(t *testing.T) {
	n := made(t, 3)
	is(t, n.Send(2, 1, []byte("a")), api.OK)
	is(t, n.Send(1, 2, []byte("b")), api.OK)
	is(t, n.Send(1, 3, []byte("c")), api.OK)
	at(t, n, 0, flight(1, 2, "b"))
	takes(t, n, 2, flight(2, 1, "a"))
	if n.Len() != 2 {
		t.Error(n.Len())
	}
	is(t, n.Double(0), api.OK)
	takes(t, n, 1, flight(1, 2, "b"))
	is(t, n.Drop(9), api.ErrNone)
	is(t, n.Send(1, 1, []byte("x")), api.ErrArg)
	has(t, n, flight(1, 2, "b"), flight(1, 3, "c"))
}

// P12.1

func TestNew(t *testing.T) {
	for ends := 1; ends <= api.MaxRegions; ends++ {
		n := made(t, ends)
		has(t, n)
		lost(t, n, 0)
	}
	for _, ends := range []int{0, -1, api.MaxRegions + 1, 1000, math.MinInt, math.MaxInt} {
		if n, code := net.New(ends); n != nil || code != api.ErrArg {
			t.Error(ends, n, code)
		}
	}
}

func TestNewNetsAreApart(t *testing.T) {
	n, o := made(t, 2), made(t, 2)
	is(t, n.Send(1, 2, []byte("a")), api.OK)
	has(t, n, flight(1, 2, "a"))
	has(t, o)
}

// Between each two ends, and between no others.
func TestSendBetweenEnds(t *testing.T) {
	for ends := 1; ends <= api.MaxRegions; ends++ {
		n := made(t, ends)
		var l []api.Flight
		for from := -1; from <= api.MaxRegions+1; from++ {
			for to := -1; to <= api.MaxRegions+1; to++ {
				want := api.ErrArg
				if from >= 1 && from <= ends && to >= 1 && to <= ends && from != to {
					want = api.OK
					l = append(l, flight(from, to, string([]byte{byte(from), byte(to)})))
				}
				is(t, n.Send(from, to, []byte{byte(from), byte(to)}), want)
			}
		}
		has(t, n, l...)
		lost(t, n, 0)
	}
	n := made(t, 3)
	for _, end := range []int{math.MinInt, math.MaxInt, 1 << 32, 1<<32 + 1} {
		is(t, n.Send(end, 1, nil), api.ErrArg)
		is(t, n.Send(1, end, nil), api.ErrArg)
	}
	has(t, n)
}

func TestSendPutsTheLastOfItsLine(t *testing.T) {
	n := made(t, 3)
	for _, b := range []string{"1", "2", "3", "2", "1"} {
		is(t, n.Send(3, 1, []byte(b)), api.OK)
		is(t, n.Send(1, 3, []byte("to "+b)), api.OK)
	}
	has(t, n,
		flight(1, 3, "to 1"), flight(1, 3, "to 2"), flight(1, 3, "to 3"), flight(1, 3, "to 2"), flight(1, 3, "to 1"),
		flight(3, 1, "1"), flight(3, 1, "2"), flight(3, 1, "3"), flight(3, 1, "2"), flight(3, 1, "1"))
}

func TestSendOfHowManyBytes(t *testing.T) {
	n := made(t, 2)
	most := bytes.Repeat([]byte("x"), api.MaxBytes)
	is(t, n.Send(1, 2, nil), api.OK)
	is(t, n.Send(1, 2, []byte{}), api.OK)
	is(t, n.Send(1, 2, most), api.OK)
	is(t, n.Send(1, 2, append(most, 'x')), api.ErrArg)
	has(t, n, flight(1, 2, ""), flight(1, 2, ""), flight(1, 2, string(most)))
	is(t, n.Double(2), api.OK)
	has(t, n, flight(1, 2, ""), flight(1, 2, ""), flight(1, 2, string(most)), flight(1, 2, string(most)))
	lost(t, n, 0)
}

// A line has room of its own, and gets it back.
func TestSendToAFullLine(t *testing.T) {
	n, l := full(t, 3, 1, 2)
	lost(t, n, 0)
	for i := range 3 {
		is(t, n.Send(1, 2, []byte("x")), api.ErrFull)
		lost(t, n, i+1)
	}
	has(t, n, l...)
	is(t, n.Send(2, 1, []byte("y")), api.OK)
	is(t, n.Send(1, 3, []byte("z")), api.OK)
	has(t, n, append(slices.Clone(l), flight(1, 3, "z"), flight(2, 1, "y"))...)
	takes(t, n, 0, l[0])
	is(t, n.Send(1, 2, []byte("u")), api.OK)
	is(t, n.Send(1, 2, []byte("v")), api.ErrFull)
	has(t, n, append(slices.Clone(l[1:]), flight(1, 2, "u"), flight(1, 3, "z"), flight(2, 1, "y"))...)
	lost(t, n, 4)
}

// What may not be sent is not lost either, and ahead of there being no room.
func TestSendRefusedOfAFullLine(t *testing.T) {
	n, l := full(t, 2, 1, 2)
	is(t, n.Send(1, 2, make([]byte, api.MaxBytes+1)), api.ErrArg)
	is(t, n.Send(1, 1, nil), api.ErrArg)
	is(t, n.Send(1, 3, nil), api.ErrArg)
	is(t, n.Send(0, 2, nil), api.ErrArg)
	lost(t, n, 0)
	has(t, n, l...)
}

func TestFullNet(t *testing.T) {
	n := made(t, api.MaxRegions)
	want := 0
	for from := 1; from <= api.MaxRegions; from++ {
		for to := 1; to <= api.MaxRegions; to++ {
			for range api.MaxFlight {
				if from != to {
					is(t, n.Send(from, to, []byte{byte(from), byte(to)}), api.OK)
					want++
				}
			}
		}
	}
	if n.Len() != want || want != 16*15*64 {
		t.Error(n.Len(), want)
	}
	at(t, n, 0, flight(1, 2, "\x01\x02"))
	at(t, n, want-1, flight(16, 15, "\x10\x0f"))
	none(t, n, want, api.ErrNone)
	is(t, n.Double(want-1), api.ErrFull)
	is(t, n.Send(16, 15, nil), api.ErrFull)
	takes(t, n, want-1, flight(16, 15, "\x10\x0f"))
	is(t, n.Double(want-2), api.OK)
	if got := n.Clear(16); got != 15*64 || n.Len() != want-got {
		t.Error(got, n.Len())
	}
}

func TestWhatIsSentStaysTheCallers(t *testing.T) {
	n := made(t, 2)
	b := append(make([]byte, 0, 64), "xyz"...)
	is(t, n.Send(1, 2, b), api.OK)
	is(t, n.Send(2, 1, b), api.OK)
	copy(b, "123")
	_ = append(b, "456"...)
	has(t, n, flight(1, 2, "xyz"), flight(2, 1, "xyz"))
	if string(b[:6]) != "123456" {
		t.Errorf("%q", b[:6])
	}
}

// P12.2

// three has three flights each on lines that stand first, amidst, and last.
func three(t *testing.T) (*net.Net, []api.Flight) {
	t.Helper()
	l := []api.Flight{
		flight(1, 2, "a"), flight(1, 2, "b"), flight(1, 2, "c"),
		flight(2, 1, "d"), flight(2, 1, "e"), flight(2, 1, "f"),
		flight(2, 3, "g"), flight(2, 3, "h"), flight(2, 3, "i"),
		flight(3, 2, "j"), flight(3, 2, "k"), flight(3, 2, "l"),
	}
	n := made(t, 3)
	for _, i := range []int{9, 3, 6, 0, 7, 4, 10, 1, 5, 2, 11, 8} { // each line's own in turn
		is(t, n.Send(l[i].From, l[i].To, l[i].Bytes), api.OK)
	}
	has(t, n, l...)
	return n, l
}

func without(l []api.Flight, place int) []api.Flight {
	return slices.Delete(slices.Clone(l), place, place+1)
}

func TestTakeAndDropAtEachPlace(t *testing.T) {
	_, l := three(t)
	for place := range l {
		n, _ := three(t)
		takes(t, n, place, l[place])
		has(t, n, without(l, place)...)
		o, _ := three(t)
		is(t, o.Drop(place), api.OK)
		has(t, o, without(l, place)...)
		lost(t, n, 0)
		lost(t, o, 0)
	}
}

func TestDoubleAtEachPlace(t *testing.T) {
	_, l := three(t)
	for place := range l {
		n, _ := three(t)
		is(t, n.Double(place), api.OK)
		want := slices.Insert(slices.Clone(l), place/3*3+3, l[place])
		has(t, n, want...)
		takes(t, n, place, l[place]) // both go on apart
		has(t, n, without(want, place)...)
		lost(t, n, 0)
	}
}

func TestTakeAllBackwardAndForward(t *testing.T) {
	n, l := three(t)
	for place, f := range slices.Backward(l) {
		takes(t, n, place, f)
		has(t, n, l[:place]...)
	}
	n, l = three(t)
	for i, f := range l {
		takes(t, n, 0, f)
		has(t, n, l[i+1:]...)
	}
	is(t, n.Send(3, 1, []byte("m")), api.OK) // what is empty again is as new
	has(t, n, flight(3, 1, "m"))
}

func TestWrongPlaces(t *testing.T) {
	n, l := three(t)
	for _, o := range []*net.Net{n, made(t, 1), made(t, 16)} {
		for _, place := range []int{-1, -12, math.MinInt} {
			none(t, o, place, api.ErrArg)
		}
		for _, place := range []int{12, 13, 1 << 32, math.MaxInt} {
			none(t, o, place, api.ErrNone)
		}
	}
	none(t, made(t, 2), 0, api.ErrNone)
	has(t, n, l...)
	lost(t, n, 0)
}

func TestDoubleOfAFullLine(t *testing.T) {
	n, l := full(t, 2, 2, 1)
	for _, place := range []int{0, 31, 63} {
		is(t, n.Double(place), api.ErrFull)
	}
	none(t, n, 64, api.ErrNone)
	none(t, n, -1, api.ErrArg)
	has(t, n, l...)
	lost(t, n, 0)
	takes(t, n, 63, l[63])
	is(t, n.Double(0), api.OK)
	is(t, n.Double(0), api.ErrFull)
	has(t, n, append(slices.Clone(l[:63]), l[0])...)
	lost(t, n, 0)
}

func TestAtChangesNothing(t *testing.T) {
	n, l := three(t)
	for range 3 {
		for place, f := range l {
			at(t, n, place, f)
		}
	}
	has(t, n, l...)
}

// What is answered is new memory each time, of a doubled one, too.
func TestWhatIsAnsweredIsTheCallers(t *testing.T) {
	n := of(t, 2, flight(1, 2, "xyz"))
	is(t, n.Double(0), api.OK)
	change := func(f api.Flight) {
		if string(f.Bytes) != "xyz" {
			t.Errorf("%q", f.Bytes)
		}
		_ = append(f.Bytes, "456"...)
		copy(f.Bytes, "123")
	}
	for range 2 {
		f, _ := n.At(0)
		change(f)
	}
	all := n.All()
	for range 2 {
		for _, f := range all {
			change(f)
		}
	}
	o := n.Copy()
	f, _ := n.Take(0)
	change(f)
	has(t, n, flight(1, 2, "xyz"))
	has(t, o, flight(1, 2, "xyz"), flight(1, 2, "xyz"))
	for _, f := range all {
		change(f)
	}
	f, _ = n.Take(0)
	change(f)
	has(t, o, flight(1, 2, "xyz"), flight(1, 2, "xyz"))
}

func TestCallsOfNone(t *testing.T) {
	for _, n := range nones() {
		for _, end := range []int{-1, 0, 1, 2, 17} {
			is(t, n.Send(1, end, nil), api.ErrNil)
			is(t, n.Send(end, end, make([]byte, api.MaxBytes+1)), api.ErrNil)
			if n.Clear(end) != 0 || n.Line(1, end) != 0 || n.Line(end, end) != 0 {
				t.Error(end)
			}
		}
		for _, place := range []int{-1, 0, 1, math.MinInt, math.MaxInt} {
			none(t, n, place, api.ErrNil)
		}
		goes(t, n)
		if n.Len() != 0 || n.Lost() != 0 || n.Copy() != nil {
			t.Error(n.Len(), n.Lost(), n.Copy())
		}
	}
}
