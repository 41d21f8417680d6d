package event_test

import (
	"bytes"
	"encoding/binary"
	"math/rand/v2"
	"slices"
	"strings"
	"testing"

	"minster/api"
	"minster/event"
)

// bytesByWords are an event's bytes just as the chapter's words say them, of
// one that may not be, too, as far as its parts have room.
func bytesByWords(e api.Event) []byte {
	var b []byte
	dot := func(d api.Dot) {
		b = append(b, byte(d.Region))
		b = binary.BigEndian.AppendUint64(b, d.Count)
	}
	blob := func(s string) {
		b = binary.BigEndian.AppendUint16(b, uint16(len(s)))
		b = append(b, s...)
	}
	dot(e.ID)
	blob(e.Topic)
	blob(string(e.Payload))
	for _, n := range e.Past {
		b = binary.BigEndian.AppendUint64(b, n)
	}
	b = binary.BigEndian.AppendUint16(b, uint16(len(e.To)))
	for _, d := range e.To {
		dot(d.Dot)
		blob(d.Device)
	}
	return b
}

// hasRoom answers whether bytesByWords tells all of an event.
func hasRoom(e api.Event) bool {
	byteLike := func(region int) bool { return region >= 0 && region <= 255 }
	return byteLike(e.ID.Region) && len(e.Payload) <= 65535 && len(e.To) <= 65535 &&
		!slices.ContainsFunc(e.To, func(d api.Dest) bool { return !byteLike(d.Dot.Region) })
}

// random is some event that may be.
func random(g *rand.Rand) api.Event {
	e := api.Event{ID: api.Dot{Region: 1 + g.IntN(16), Count: 1 + g.Uint64N(maxCount)>>g.IntN(62)}}
	e.Topic = name(g)
	e.Payload = []byte(text(g, g.IntN(20)))
	for i := range e.Past {
		e.Past[i] = g.Uint64N(maxCount+1) >> g.IntN(63)
	}
	e.Past[e.ID.Region-1] = e.ID.Count - 1
	last := api.Dot{Region: 1}
	for range g.IntN(6) {
		if last.Region < 16 && g.IntN(2) == 0 {
			last = api.Dot{Region: last.Region + 1}
		}
		last.Count += 1 + g.Uint64N(maxCount/8)>>g.IntN(60)
		e.To = append(e.To, api.Dest{Dot: last, Device: name(g)})
	}
	return e
}

func name(g *rand.Rand) string {
	return text(g, 1+g.IntN(32))
}

func text(g *rand.Rand, n int) string {
	b := make([]byte, n)
	for i := range b {
		b[i] = byte(g.Uint32())
	}
	return string(b)
}

// wantRefused: b are no event's, and nothing is answered beside that.
func wantRefused(t *testing.T, what any, b []byte) {
	t.Helper()
	e, code := event.Of(b)
	if code != api.ErrBytes || !isZero(e) {
		t.Errorf("%v: %v, %v", what, e, code)
	}
}

func isZero(e api.Event) bool {
	return e.ID == api.Dot{} && e.Topic == "" && len(e.Payload) == 0 && e.Past == api.Vector{} && len(e.To) == 0
}

// wantOwn: whatever b are, an event is answered of its own bytes alone.
func wantOwn(t *testing.T, b []byte) {
	t.Helper()
	e, code := event.Of(b)
	switch code {
	case api.OK:
		if !event.May(e) || !bytes.Equal(bytesByWords(e), b) {
			t.Fatalf("%v: %v", b, e)
		}
	case api.ErrBytes:
		if !isZero(e) {
			t.Fatal(e)
		}
	default:
		t.Fatal(code)
	}
}

// P9.1: bytes

// These bytes were written down by hand.
func TestKnownBytes(t *testing.T) {
	e := api.Event{
		ID:      api.Dot{Region: 2, Count: 5},
		Topic:   "t",
		Payload: []byte{0, 255},
		Past:    api.Vector{7, 4, 15: 0x0102030405060708},
		To: []api.Dest{
			{Dot: api.Dot{Region: 1, Count: 258}, Device: "ab"},
			{Dot: api.Dot{Region: 16, Count: maxCount}, Device: "c"},
		},
	}
	want := slices.Concat(
		[]byte{2, 0, 0, 0, 0, 0, 0, 0, 5},
		[]byte{0, 1, 't'},
		[]byte{0, 2, 0, 255},
		[]byte{0, 0, 0, 0, 0, 0, 0, 7}, []byte{0, 0, 0, 0, 0, 0, 0, 4}, make([]byte, 13*8), []byte{1, 2, 3, 4, 5, 6, 7, 8},
		[]byte{0, 2},
		[]byte{1, 0, 0, 0, 0, 0, 0, 1, 2}, []byte{0, 2, 'a', 'b'},
		[]byte{16, 64, 0, 0, 0, 0, 0, 0, 0}, []byte{0, 1, 'c'},
	)
	if got, code := event.Bytes(e); !bytes.Equal(got, want) || code != api.OK {
		t.Error(got, code)
	}
	if got, code := event.Of(want); !event.Same(got, e) || code != api.OK {
		t.Error(got, code)
	}
	got, code := event.Bytes(least())
	if want := slices.Concat([]byte{1, 0, 0, 0, 0, 0, 0, 0, 1, 0, 1, 't', 0, 0}, make([]byte, 130)); !bytes.Equal(got, want) || code != api.OK {
		t.Error(got, code)
	}
}

func TestBytes(t *testing.T) {
	for what, e := range good() {
		if got, code := event.Bytes(e); !bytes.Equal(got, bytesByWords(e)) || code != api.OK {
			t.Error(what, got, code)
		}
	}
	g := rand.New(rand.NewPCG(9, 2))
	for range 2000 {
		e := random(g)
		if got, code := event.Bytes(e); !bytes.Equal(got, bytesByWords(e)) || code != api.OK {
			t.Fatal(e, got, code)
		}
	}
}

func TestBytesRefuses(t *testing.T) {
	for what, e := range bad() {
		if b, code := event.Bytes(e); len(b) != 0 || code != api.ErrArg {
			t.Error(what, b, code)
		}
	}
}

func TestSizes(t *testing.T) {
	for n, e := range map[int]api.Event{
		144:                                  least(),
		9 + 34 + 514 + 128 + 2 + 1024*(9+34): greatest(),
	} {
		if b, code := event.Bytes(e); len(b) != n || code != api.OK {
			t.Error(len(b), "and not", n, code)
		}
	}
}

func TestOf(t *testing.T) {
	for what, e := range good() {
		if got, code := event.Of(bytesByWords(e)); !event.Same(got, e) || code != api.OK {
			t.Error(what, got, code)
		}
	}
}

func TestOfRefusesWhatMayNotBe(t *testing.T) {
	for what, e := range bad() {
		if hasRoom(e) {
			wantRefused(t, what, bytesByWords(e))
		}
	}
}

func TestOfRefusesParts(t *testing.T) {
	for _, e := range []api.Event{least(), plain()} {
		b := bytesByWords(e)
		for n := range b {
			wantRefused(t, n, b[:n])
			wantRefused(t, n, b[len(b)-n:])
			wantRefused(t, n, slices.Delete(slices.Clone(b), n, n+1))
		}
		for c := range 256 {
			wantRefused(t, c, append(slices.Clone(b), byte(c)))
		}
		wantRefused(t, "twice", slices.Concat(b, b))
		wantRefused(t, "noughts", append(slices.Clone(b), make([]byte, 1000)...))
	}
	wantRefused(t, "none", nil)
	wantRefused(t, "none", []byte{})
	b := bytesByWords(greatest())
	wantRefused(t, "a byte less", b[:len(b)-1])
	wantRefused(t, "a byte more", append(b, 0))
	for _, c := range []byte{0, 1, 255} {
		for n := range 400 {
			wantRefused(t, n, bytes.Repeat([]byte{c}, n))
		}
		wantRefused(t, c, bytes.Repeat([]byte{c}, 1<<17))
	}
}

// The number of dests that is told must be that of the dests that follow.
func TestOfRefusesWrongNumbers(t *testing.T) {
	e := plain()
	b := bytesByWords(e)
	at := len(b) - len(bytesByWords(api.Event{To: e.To})) + len(bytesByWords(api.Event{})) - 2
	if binary.BigEndian.Uint16(b[at:]) != 3 {
		t.Fatal(b[at:])
	}
	for n := range 1 << 16 {
		if n != 3 {
			binary.BigEndian.PutUint16(b[at:], uint16(n))
			wantRefused(t, n, b)
		}
	}
	for _, n := range []int{1025, 2048, 65535} {
		more := with(func(e *api.Event) { e.To = dests(n) })
		wantRefused(t, n, bytesByWords(more))
	}
	more := bytesByWords(greatest())
	binary.BigEndian.PutUint16(more[9+34+514+128:], 1023)
	wantRefused(t, "one less than there are", more)
	binary.BigEndian.PutUint16(more[9+34+514+128:], 1025)
	wantRefused(t, "one more than there are", more)
}

func TestOfRefusesWrongBlobs(t *testing.T) {
	head := []byte{1, 0, 0, 0, 0, 0, 0, 0, 1}
	tail := make([]byte, 130)
	for _, x := range []struct {
		topic, payload int
		code           api.Errno
	}{
		{0, 0, api.ErrBytes}, {1, 0, api.OK}, {32, 0, api.OK}, {33, 0, api.ErrBytes}, {256, 0, api.ErrBytes}, {65535, 0, api.ErrBytes},
		{1, 1, api.OK}, {1, 511, api.OK}, {1, 512, api.OK}, {1, 513, api.ErrBytes}, {1, 65535, api.ErrBytes}, {32, 512, api.OK},
	} {
		var topic, payload []byte
		topic = append(binary.BigEndian.AppendUint16(topic, uint16(x.topic)), strings.Repeat("t", x.topic)...)
		payload = append(binary.BigEndian.AppendUint16(payload, uint16(x.payload)), strings.Repeat("p", x.payload)...)
		e, code := event.Of(slices.Concat(head, topic, payload, tail))
		if code != x.code || code == api.OK && (len(e.Topic) != x.topic || len(e.Payload) != x.payload) || code != api.OK && !isZero(e) {
			t.Error(x, e, code)
		}
	}
}

func TestOfAnswersAnEventOfItsOwnBytesAlone(t *testing.T) {
	b := bytesByWords(plain())
	for i := range b {
		for c := range 256 {
			other := slices.Clone(b)
			other[i] = byte(c)
			wantOwn(t, other)
		}
	}
	g := rand.New(rand.NewPCG(9, 3))
	for range 20000 {
		b := bytesByWords(random(g))
		for range 1 + g.IntN(3) {
			at := g.IntN(len(b))
			switch g.IntN(4) {
			case 0:
				b[at] ^= 1 << g.IntN(8)
			case 1:
				b = slices.Insert(b, at, byte(g.Uint32()>>g.IntN(8)))
			case 2:
				b = slices.Delete(b, at, at+1)
			case 3:
				b[at] = byte(g.IntN(4))
			}
		}
		wantOwn(t, b)
	}
}

func FuzzOf(f *testing.F) {
	f.Add([]byte(nil))
	for _, e := range good() {
		f.Add(bytesByWords(e))
	}
	f.Fuzz(func(t *testing.T, b []byte) {
		wantOwn(t, b)
	})
}

// P9.5

func TestOfOfBytes(t *testing.T) {
	back := func(e api.Event) {
		b, code := event.Bytes(e)
		got, refused := event.Of(b)
		if !event.Same(got, e) || code != api.OK || refused != api.OK {
			t.Error(e, got, code, refused)
		}
	}
	for _, e := range good() {
		back(e)
	}
	g := rand.New(rand.NewPCG(9, 4))
	for range 2000 {
		back(random(g))
	}
}

// What is answered is new memory.

func TestOfSharesNothing(t *testing.T) {
	b := append(make([]byte, 0, 4000), bytesByWords(plain())...)
	room := slices.Clone(b[:4000])
	e, _ := event.Of(b)
	other, _ := event.Of(b)
	for i := range e.Payload {
		e.Payload[i] = 'z'
	}
	for i := range e.To {
		e.To[i] = api.Dest{}
	}
	_ = append(e.Payload, 'z')
	_ = append(e.To, api.Dest{})
	if !bytes.Equal(b[:4000], room) || !event.Same(other, plain()) {
		t.Error("what was handed in, or another answer, was changed")
	}
	clear(b)
	if !event.Same(other, plain()) {
		t.Error("the answer is of the bytes that were handed in")
	}
	one, _ := event.Bytes(plain())
	two, _ := event.Bytes(plain())
	clear(one)
	if !bytes.Equal(two, bytesByWords(plain())) {
		t.Error("two answers share memory")
	}
}
