package net_test

import (
	"cmp"
	"encoding/binary"
	"math/rand/v2"
	"slices"
	"testing"

	"minster/api"
	"minster/net"
)

// model is a net just as the chapter's words have it: all that is in flight, in
// the order in which it was sent, and stood in turn when it is looked at.
type model struct {
	ends int
	sent []api.Flight
	lost int
}

func (m *model) flights() []api.Flight {
	l := slices.Clone(m.sent)
	slices.SortStableFunc(l, func(a, b api.Flight) int {
		return cmp.Or(cmp.Compare(a.From, b.From), cmp.Compare(a.To, b.To))
	})
	return l
}

func (m *model) line(from, to int) int {
	all := 0
	for _, f := range m.sent {
		if f.From == from && f.To == to {
			all++
		}
	}
	return all
}

func (m *model) send(f api.Flight) api.Errno {
	switch {
	case f.From < 1 || f.From > m.ends || f.To < 1 || f.To > m.ends || f.From == f.To:
		return api.ErrArg
	case m.line(f.From, f.To) == api.MaxFlight:
		m.lost++
		return api.ErrFull
	}
	m.sent = append(m.sent, f)
	return api.OK
}

func (m *model) find(place int) (api.Flight, api.Errno) {
	switch l := m.flights(); {
	case place < 0:
		return api.Flight{}, api.ErrArg
	case place >= len(l):
		return api.Flight{}, api.ErrNone
	default:
		return l[place], api.OK
	}
}

// remove takes the n-th of a line away: the one of that place.
func (m *model) remove(place int) {
	f, code := m.find(place)
	if code != api.OK {
		return
	}
	nth := 0
	for _, o := range m.flights()[:place] {
		if o.From == f.From && o.To == f.To {
			nth++
		}
	}
	m.sent = slices.DeleteFunc(slices.Clone(m.sent), func(o api.Flight) bool {
		if o.From == f.From && o.To == f.To {
			nth--
			return nth == -1
		}
		return false
	})
}

func (m *model) double(place int) api.Errno {
	f, code := m.find(place)
	switch {
	case code != api.OK:
		return code
	case m.line(f.From, f.To) == api.MaxFlight:
		return api.ErrFull
	}
	m.sent = append(m.sent, f)
	return api.OK
}

func (m *model) clear(end int) int {
	before := len(m.sent)
	m.sent = slices.DeleteFunc(slices.Clone(m.sent), func(f api.Flight) bool { return f.To == end })
	return before - len(m.sent)
}

// step does one thing to both, and wants the same answers.
func (m *model) step(t *testing.T, g *rand.Rand, n *net.Net) {
	t.Helper()
	place := g.IntN(len(m.sent)+3) - 1
	want, code := m.find(place)
	switch kind := g.IntN(100); {
	case kind < 60:
		f := api.Flight{From: g.IntN(m.ends+2) - g.IntN(2), To: g.IntN(m.ends + 2)}
		f.Bytes = binary.BigEndian.AppendUint16(make([]byte, g.IntN(3)), uint16(g.IntN(1<<16)))
		is(t, n.Send(f.From, f.To, f.Bytes), m.send(f))
	case kind < 75:
		f, got := n.Take(place)
		if got != code || !same(f, want) {
			t.Error("Take", place, f, got, want, code)
		}
		m.remove(place)
	case kind < 85:
		is(t, n.Drop(place), code)
		m.remove(place)
	case kind < 99:
		is(t, n.Double(place), m.double(place))
	default:
		end := g.IntN(m.ends+3) - 1
		if got, want := n.Clear(end), m.clear(end); got != want {
			t.Error("Clear", end, got, want)
		}
	}
}

func TestRandomRuns(t *testing.T) {
	for seed := range uint64(60) {
		g := rand.New(rand.NewPCG(seed, 12))
		ends := 1 + g.IntN(4)
		if seed%10 == 0 {
			ends = api.MaxRegions
		}
		n, m := made(t, ends), &model{ends: ends}
		for i := range 400 {
			if g.IntN(20) == 0 {
				n = n.Copy()
			}
			m.step(t, g, n)
			if i%20 == 0 {
				has(t, n, m.flights()...)
			}
			lost(t, n, m.lost)
			if t.Failed() {
				t.Fatal(seed, i)
			}
		}
		has(t, n, m.flights()...)
	}
}

// Few ends, and much that is sent: lines fill up.
func TestRandomRunsOfFullLines(t *testing.T) {
	for seed := range uint64(10) {
		g := rand.New(rand.NewPCG(seed, 13))
		n, m := made(t, 2), &model{ends: 2}
		for range 600 {
			m.step(t, g, n)
			for range 4 {
				f := flight(2, 1, string([]byte{byte(g.IntN(256))}))
				is(t, n.Send(f.From, f.To, f.Bytes), m.send(f))
			}
			lost(t, n, m.lost)
			if n.Line(2, 1) > api.MaxFlight || t.Failed() {
				t.Fatal(seed)
			}
		}
		if m.lost == 0 {
			t.Error("no line was ever full")
		}
		has(t, n, m.flights()...)
	}
}

// P12.4

// What is taken was sent, by that end to that one, and as often as it was sent
// and doubled at most.
func TestWhatIsTakenWasSent(t *testing.T) {
	for seed := range uint64(30) {
		g := rand.New(rand.NewPCG(seed, 14))
		n := made(t, 4)
		type told struct {
			from, to int
			bytes    string
		}
		left := map[told]int{}
		for range 500 {
			f := flight(1+g.IntN(4), 1+g.IntN(4), string([]byte{byte(g.IntN(20))}))
			if n.Send(f.From, f.To, f.Bytes) == api.OK {
				left[told{f.From, f.To, string(f.Bytes)}]++
			}
			place := g.IntN(n.Len() + 1)
			if f, code := n.At(place); code == api.OK && g.IntN(4) == 0 && n.Double(place) == api.OK {
				left[told{f.From, f.To, string(f.Bytes)}]++
			}
			if f, code := n.Take(g.IntN(n.Len() + 1)); code == api.OK {
				is := told{f.From, f.To, string(f.Bytes)}
				if left[is]--; left[is] < 0 {
					t.Fatal(seed, is)
				}
			}
		}
	}
}

// Where of a line always the first one is taken, and nothing doubled, it comes
// in the order in which it was sent, whichever lines are taken from.
func TestFirstsComeInOrder(t *testing.T) {
	for seed := range uint64(30) {
		g := rand.New(rand.NewPCG(seed, 15))
		n := made(t, 4)
		var next, want [5][5]uint64
		take := func() {
			var firsts []int
			last := [2]int{}
			for place, f := range n.All() {
				if on := [2]int{f.From, f.To}; on != last {
					firsts, last = append(firsts, place), on
				}
			}
			if len(firsts) == 0 {
				return
			}
			f, code := n.Take(firsts[g.IntN(len(firsts))])
			if got := binary.BigEndian.Uint64(f.Bytes); code != api.OK || got != want[f.From][f.To] {
				t.Fatal(seed, f, code, want[f.From][f.To])
			}
			want[f.From][f.To]++
		}
		for range 600 {
			from, to := 1+g.IntN(4), 1+g.IntN(4)
			if n.Send(from, to, binary.BigEndian.AppendUint64(nil, next[from][to])) == api.OK {
				next[from][to]++
			}
			for range g.IntN(3) {
				take()
			}
		}
		for n.Len() > 0 {
			take()
		}
		if next != want {
			t.Error(seed, next, want)
		}
	}
}
