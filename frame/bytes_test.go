package frame_test

import (
	"bytes"
	"encoding/binary"
	"hash/crc32"
	"math/rand/v2"
	"slices"
	"testing"

	"minster/api"
	"minster/frame"
)

func isZero(f api.Frame) bool {
	return f.Kind == 0 && f.From == 0 && f.To == 0 && len(f.Items) == 0 &&
		f.Event.ID == api.Dot{} && f.Event.Topic == "" && len(f.Event.Payload) == 0 && f.Event.Past == api.Vector{} && len(f.Event.To) == 0 &&
		f.Past == api.Vector{} && f.Seen == api.Vector{} && len(f.Extra) == 0 && len(f.Live) == 0 && f.Hash == api.Hash{} &&
		len(f.Leaves) == 0 && len(f.Buckets) == 0 && !f.Reply
}

// wantRefused: b are no frame's, and nothing is answered beside that.
func wantRefused(t *testing.T, what any, b []byte) {
	t.Helper()
	if f, code := frame.Of(b); code != api.ErrBytes || !isZero(f) {
		t.Errorf("%v: %v, %v", what, f, code)
	}
}

// wantToldRefused: also with the right sum behind it, told is no frame's.
func wantToldRefused(t *testing.T, what any, told []byte) {
	t.Helper()
	wantRefused(t, what, closed(told))
}

func wantOf(t *testing.T, what any, b []byte, want api.Frame) {
	t.Helper()
	if f, code := frame.Of(b); code != api.OK || !frame.Same(f, want) {
		t.Errorf("%v: %v, %v", what, f, code)
	}
}

// wantOwn: whatever b are, a frame is answered of its own bytes alone.
func wantOwn(t *testing.T, b []byte) {
	t.Helper()
	f, code := frame.Of(b)
	switch code {
	case api.OK:
		if !frame.May(f) || !bytes.Equal(bytesByWords(f), b) {
			t.Fatalf("%v: %v", b, f)
		}
	case api.ErrBytes:
		if !isZero(f) {
			t.Fatal(f)
		}
	default:
		t.Fatal(code)
	}
}

// hasRoom answers whether bytesByWords tells all that a frame names.
func hasRoom(f api.Frame) bool {
	region := func(n int) bool { return n >= 0 && n <= 255 }
	for _, i := range f.Items {
		if !region(i.Dot.Region) || len(i.Key.Topic) > 65535 || i.Gone && i.Key != (api.Key{}) {
			return false
		}
	}
	for _, n := range f.Buckets {
		if n < 0 || n > 255 {
			return false
		}
	}
	return len(f.Items) <= 65535 && len(f.Extra) <= 65535 && len(f.Buckets) <= 255
}

// P11.1: bytes

// These bytes were written down by hand, their sums reckoned by another
// program.
func TestKnownBytes(t *testing.T) {
	nine := func(region, count byte) []byte { return []byte{region, 0, 0, 0, 0, 0, 0, 0, count} }
	eight := func(n byte) []byte { return []byte{0, 0, 0, 0, 0, 0, 0, n} }
	var leaves []byte
	for i := range 64 {
		leaves = append(leaves, bytes.Repeat([]byte{byte(i)}, 32)...)
	}
	same := make([]api.Hash, 64)
	for i := range same {
		copy(same[i][:], leaves[32*i:])
	}
	e := api.Event{ID: dot(2, 5), Topic: "t", Payload: []byte{0, 255}, Past: api.Vector{7, 4}, To: []api.Dest{{Dot: dot(1, 9), Device: "ab"}}}
	for i, x := range []struct {
		f    api.Frame
		told []byte
		sum  uint32
	}{
		{api.Frame{Kind: 1, From: 16, To: 3, Items: []api.Item{live(2, 9, "t", "dd"), gone(1, 3)}},
			slices.Concat([]byte{1, 16, 3, 0, 2}, nine(2, 9), []byte{0, 0, 1, 't', 0, 2, 'd', 'd'}, nine(1, 3), []byte{1}), 0xb7758e08},
		{api.Frame{Kind: 2, From: 1, To: 2, Event: e},
			slices.Concat([]byte{2, 1, 2, 0, 0, 0, 159}, nine(2, 5), []byte{0, 1, 't', 0, 2, 0, 255}, eight(7), eight(4), make([]byte, 14*8),
				[]byte{0, 1}, nine(1, 9), []byte{0, 2, 'a', 'b'}), 0x7e4800ad},
		{api.Frame{Kind: 3, From: 1, To: 2, Past: api.Vector{1, 15: maxCount}},
			slices.Concat([]byte{3, 1, 2}, eight(1), make([]byte, 14*8), []byte{64, 0, 0, 0, 0, 0, 0, 0}), 0x799300ce},
		{api.Frame{Kind: 4, From: 9, To: 8, Seen: api.Vector{5, 1}, Extra: []api.Dot{dot(1, 7), dot(3, 2)}, Live: []api.Dot{dot(1, 2), dot(1, 3), dot(3, 2)}},
			slices.Concat([]byte{4, 9, 8}, eight(5), eight(1), make([]byte, 14*8), []byte{0, 2}, nine(1, 7), nine(3, 2),
				[]byte{0, 3}, nine(1, 2), nine(1, 3), nine(3, 2)), 0x942211a6},
		{api.Frame{Kind: 5, From: 2, To: 1, Hash: api.Hash(bytes.Repeat([]byte{170}, 32))},
			slices.Concat([]byte{5, 2, 1}, bytes.Repeat([]byte{170}, 32)), 0x855964a6},
		{api.Frame{Kind: 6, From: 2, To: 1, Leaves: same}, slices.Concat([]byte{6, 2, 1}, leaves), 0x55e07e19},
		{api.Frame{Kind: 7, From: 2, To: 1, Buckets: []int{4, 63}, Items: []api.Item{gone(1, 61)}, Seen: api.Vector{1}, Extra: []api.Dot{dot(1, 61)}, Reply: true},
			slices.Concat([]byte{7, 2, 1, 2, 4, 63, 0, 1}, nine(1, 61), []byte{1}, eight(1), make([]byte, 15*8), []byte{0, 1}, nine(1, 61), []byte{1}), 0xe0d96898},
		{api.Frame{Kind: 7, From: 2, To: 1, Buckets: []int{0}},
			slices.Concat([]byte{7, 2, 1, 1, 0, 0, 0}, make([]byte, 128), []byte{0, 0, 0}), 0x1aa2bd82},
	} {
		want := binary.BigEndian.AppendUint32(x.told, x.sum)
		if b, code := frame.Bytes(x.f); code != api.OK || !bytes.Equal(b, want) {
			t.Errorf("%d: %x, %v", i, b, code)
		}
		wantOf(t, i, want, x.f)
	}
}

func TestBytes(t *testing.T) {
	for what, f := range good() {
		if b, code := frame.Bytes(f); code != api.OK || !bytes.Equal(b, bytesByWords(f)) {
			t.Error(what, len(b), code)
		}
	}
	g := rand.New(rand.NewPCG(11, 3))
	for range 1000 {
		for _, k := range kinds {
			f := random(g, k)
			if b, code := frame.Bytes(f); code != api.OK || !bytes.Equal(b, bytesByWords(f)) {
				t.Fatal(f, b, code)
			}
		}
	}
}

func TestBytesRefuses(t *testing.T) {
	l := bad()
	for what, f := range map[string]api.Frame{
		"zero":          {},
		"from 1 to 1":   {Kind: 3, From: 1, To: 1},
		"from 0":        {Kind: 3, To: 1},
		"to 0":          {Kind: 3, From: 1},
		"from 17":       {Kind: 3, From: 17, To: 1},
		"to 17":         {Kind: 3, From: 1, To: 17},
		"from 257":      {Kind: 3, From: 257, To: 2},
		"to -1":         {Kind: 3, From: 1, To: -1},
		"kind 8":        {Kind: 8, From: 1, To: 2},
		"kind 259":      {Kind: 259, From: 1, To: 2},
		"kind -1":       {Kind: -1, From: 1, To: 2},
		"a have's hash": with(3, func(f *api.Frame) { f.Hash[0] = 1 }),
	} {
		l[what] = f
	}
	for what, f := range l {
		if b, code := frame.Bytes(f); len(b) != 0 || code != api.ErrArg {
			t.Error(what, len(b), code)
		}
	}
}

func TestSizes(t *testing.T) {
	for _, x := range []struct {
		f    api.Frame
		size int
	}{
		{api.Frame{Kind: 1, From: 1, To: 2, Items: []api.Item{gone(1, 1)}}, 3 + 2 + 10 + 4},
		{api.Frame{Kind: 1, From: 1, To: 2, Items: []api.Item{live(1, 1, "t", "d")}}, 3 + 2 + 10 + 6 + 4},
		{api.Frame{Kind: 2, From: 1, To: 2, Event: api.Event{ID: dot(1, 1), Topic: "t"}}, 3 + 4 + 144 + 4},
		{api.Frame{Kind: 3, From: 1, To: 2}, 135},
		{api.Frame{Kind: 4, From: 1, To: 2}, 3 + 128 + 2 + 2 + 4},
		{api.Frame{Kind: 5, From: 1, To: 2}, 3 + 32 + 4},
		{plain(6), 3 + 64*32 + 4},
		{api.Frame{Kind: 7, From: 1, To: 2, Buckets: []int{9}}, 3 + 2 + 2 + 128 + 2 + 1 + 4},
		{greatest(), 3 + 65 + 2 + 4096*78 + 128 + 2 + 4096*9 + 1 + 4},
	} {
		if b, code := frame.Bytes(x.f); code != api.OK || len(b) != x.size {
			t.Error(x.f.Kind, len(b), "and not", x.size, code)
		}
	}
}

func TestOf(t *testing.T) {
	for what, f := range good() {
		wantOf(t, what, bytesByWords(f), f)
	}
}

// The sums are right: it is what stands ahead of them that may not be.
func TestOfRefusesWhatMayNotBe(t *testing.T) {
	refused := 0
	for what, f := range bad() {
		if hasRoom(f) {
			wantRefused(t, what, bytesByWords(f))
			refused++
		}
	}
	if refused < 100 {
		t.Error("only", refused)
	}
}

func TestOfRefusesOtherHeads(t *testing.T) {
	for _, k := range kinds {
		told := toldByWords(plain(k))
		for from := range 256 {
			for _, to := range []int{0, 1, 2, 15, 16, 17, 18, 128, 255} {
				other := slices.Clone(told)
				other[1], other[2] = byte(from), byte(to)
				if from >= 1 && from <= 16 && to >= 1 && to <= 16 && from != to {
					wantOf(t, k, closed(other), with(k, func(f *api.Frame) { f.From, f.To = from, to }))
				} else {
					wantToldRefused(t, []int{int(k), from, to}, other)
				}
			}
		}
		for c := range 256 {
			if c != int(k) {
				other := slices.Clone(told)
				other[0] = byte(c)
				wantToldRefused(t, []int{int(k), c}, other)
			}
		}
	}
	for c := range 256 {
		wantToldRefused(t, c, []byte{byte(c)})
		wantToldRefused(t, c, []byte{byte(c), 1})
		wantToldRefused(t, c, []byte{byte(c), 1, 2})
	}
}

// Each part, with its own right sum.
func TestOfRefusesParts(t *testing.T) {
	for _, k := range kinds {
		told := toldByWords(plain(k))
		for n := range told {
			wantToldRefused(t, n, told[:n])
			wantToldRefused(t, n, slices.Delete(slices.Clone(told), n, n+1))
			if n > 0 {
				wantToldRefused(t, n, told[n:])
			}
		}
		for c := range 256 {
			wantToldRefused(t, c, append(slices.Clip(told), byte(c)))
		}
		wantToldRefused(t, "twice", slices.Concat(told, told))
		wantToldRefused(t, "with its sum", bytesByWords(plain(k)))
		wantToldRefused(t, "noughts", append(slices.Clip(told), make([]byte, 1000)...))
	}
	wantToldRefused(t, "none", nil)
}

func TestOfRefusesOtherSums(t *testing.T) {
	for _, k := range kinds {
		told := toldByWords(plain(k))
		b := closed(told)
		sum := b[len(b)-4:]
		for n := range b {
			wantRefused(t, n, b[:n])
			wantRefused(t, n, b[n+1:])
		}
		for c := range 256 {
			wantRefused(t, c, append(slices.Clip(b), byte(c)))
			for i := range sum {
				if sum[i] != byte(c) {
					other := slices.Clone(b)
					other[len(told)+i] = byte(c)
					wantRefused(t, c, other)
				}
			}
		}
		backward := slices.Clone(sum)
		slices.Reverse(backward)
		turned := binary.BigEndian.AppendUint32(nil, ^binary.BigEndian.Uint32(sum))
		ieee := binary.BigEndian.AppendUint32(nil, crc32.ChecksumIEEE(told))
		for _, other := range [][]byte{nil, {0, 0, 0, 0}, {255, 255, 255, 255}, backward, turned, ieee, sum[:3], closed(told[1:])[len(told)-1:]} {
			wantRefused(t, other, slices.Concat(told, other))
		}
		wantRefused(t, "ahead", slices.Concat(sum, told))
	}
	for n := range 400 {
		for _, c := range []byte{0, 1, 7, 255} {
			wantRefused(t, n, bytes.Repeat([]byte{c}, n))
			wantToldRefused(t, n, bytes.Repeat([]byte{c}, n))
		}
	}
}

// The numbers of what follows must be those of what does.
func TestOfRefusesWrongNumbers(t *testing.T) {
	for _, x := range []struct {
		f        api.Frame
		at, size int
	}{
		{plain(1), 3, 2}, {plain(2), 3, 4}, {plain(2), 3 + 4 + 9 + 2 + 4 + 2 + 5 + 128, 2}, {plain(4), 3 + 128, 2},
		{plain(4), 3 + 128 + 2 + 4*9, 2}, {plain(7), 3, 1}, {plain(7), 3 + 1 + 3, 2}, {plain(7), len(toldByWords(plain(7))) - 12, 2},
	} {
		told := toldByWords(x.f)
		right := number(told[x.at : x.at+x.size])
		for n := range 1 << min(16, 8*x.size) {
			if n != right {
				setNumber(told[x.at:x.at+x.size], n)
				wantToldRefused(t, []int{int(x.f.Kind), x.at, n}, told)
			}
		}
		setNumber(told[x.at:x.at+x.size], right)
		wantOf(t, "the right one", closed(told), x.f)
	}
	told := toldByWords(plain(2))
	for _, n := range []int{1 << 16, 1 << 24, 1<<31 - 1, 1 << 31, 1<<32 - 1} {
		setNumber(told[3:7], n)
		wantToldRefused(t, n, told)
	}
}

func number(b []byte) int {
	n := 0
	for _, c := range b {
		n = n<<8 | int(c)
	}
	return n
}

func setNumber(b []byte, n int) {
	for i := range b {
		b[len(b)-1-i] = byte(n >> (8 * i))
	}
}

// Yes is 1, no is 0, and all else is neither.
func TestOfRefusesOtherFlags(t *testing.T) {
	told := toldByWords(plain(7))
	at := len(told) - 1
	for c := range 256 {
		told[at] = byte(c)
		if c <= 1 {
			wantOf(t, c, closed(told), with(7, func(f *api.Frame) { f.Reply = c == 1 }))
		} else {
			wantToldRefused(t, c, told)
		}
	}
	item := toldByWords(api.Frame{Kind: 1, From: 1, To: 2, Items: []api.Item{gone(1, 1)}})
	for c := range 256 {
		if c != 1 {
			item[14] = byte(c)
			wantToldRefused(t, c, item)
		}
	}
	alive := toldByWords(api.Frame{Kind: 1, From: 1, To: 2, Items: []api.Item{live(1, 1, "t", "d")}})
	for c := range 256 {
		if c != 0 {
			alive[14] = byte(c)
			wantToldRefused(t, c, alive)
		}
	}
}

func TestOfAnswersAFrameOfItsOwnBytesAlone(t *testing.T) {
	for _, k := range kinds {
		told := toldByWords(plain(k))
		for i := range told {
			for c := range 256 {
				other := slices.Clone(told)
				other[i] = byte(c)
				if k == api.FrameLeaves && i > 100 && c > 3 {
					continue
				}
				wantOwn(t, closed(other))
			}
		}
	}
	g := rand.New(rand.NewPCG(11, 4))
	for range 20000 {
		told := toldByWords(random(g, 1+api.FrameKind(g.IntN(7))))
		for range 1 + g.IntN(3) {
			at := g.IntN(len(told))
			switch g.IntN(4) {
			case 0:
				told[at] ^= 1 << g.IntN(8)
			case 1:
				told = slices.Insert(told, at, byte(g.Uint32()>>g.IntN(8)))
			case 2:
				told = slices.Delete(told, at, at+1)
			case 3:
				told[at] = byte(g.IntN(4))
			}
		}
		wantOwn(t, closed(told))
		wantOwn(t, told)
	}
}

func FuzzOf(f *testing.F) {
	f.Add([]byte(nil))
	for _, x := range good() {
		f.Add(toldByWords(x))
	}
	f.Fuzz(func(t *testing.T, told []byte) {
		wantOwn(t, closed(told))
		wantOwn(t, told)
	})
}

// P11.3

func TestOfOfBytes(t *testing.T) {
	back := func(f api.Frame) {
		t.Helper()
		b, code := frame.Bytes(f)
		got, refused := frame.Of(b)
		if code != api.OK || refused != api.OK || !frame.Same(got, f) {
			t.Fatal(f, got, code, refused)
		}
	}
	for _, f := range good() {
		back(f)
	}
	g := rand.New(rand.NewPCG(11, 5))
	for range 3000 {
		for _, k := range kinds {
			back(random(g, k))
		}
	}
}

func turn(b []byte, bits ...int) {
	for _, n := range bits {
		b[n/8] ^= 1 << (n % 8)
	}
}

// Of a short frame each one, each two, each three bits.
func TestAllTurnedBits(t *testing.T) {
	b := bytesByWords(api.Frame{Kind: 1, From: 1, To: 2, Items: []api.Item{gone(1, 1)}})
	wantTurned := func(bits ...int) {
		turn(b, bits...)
		if _, code := frame.Of(b); code != api.ErrBytes {
			t.Fatal(bits, code)
		}
		turn(b, bits...)
	}
	for i := range 8 * len(b) {
		wantTurned(i)
		for j := range i {
			wantTurned(i, j)
			for k := range j {
				wantTurned(i, j, k)
			}
		}
	}
}

func TestTurnedBits(t *testing.T) {
	g := rand.New(rand.NewPCG(11, 6))
	wide := api.Frame{Kind: 4, From: 1, To: 2, Extra: dots(894)}
	if n := 8 * len(bytesByWords(wide)); n < 1<<16-72 || n > 1<<16 {
		t.Error(n)
	}
	frames := []api.Frame{wide, {Kind: 1, From: 1, To: 2, Items: items(1200)}}
	for _, k := range kinds {
		frames = append(frames, plain(k), random(g, k))
	}
	for _, f := range frames {
		b := bytesByWords(f)
		for range 2000 {
			l := someBits(g, 8*len(b))
			turn(b, l...)
			wantRefused(t, l, b)
			turn(b, l...)
		}
		wantOf(t, "as it was", b, f)
	}
}

// someBits are one to three of so many, at times close to each other, or to
// the last ones.
func someBits(g *rand.Rand, bits int) []int {
	from, width := 0, bits
	switch g.IntN(3) {
	case 0:
		from, width = g.IntN(bits-64), 64
	case 1:
		from, width = bits-64, 64
	}
	var l []int
	for many := 1 + g.IntN(3); len(l) < many; {
		if n := from + g.IntN(width); !slices.Contains(l, n) {
			l = append(l, n)
		}
	}
	return l
}

// What is handed in stays as it is, and what is answered is new memory.

// copied is a frame that shares nothing with f.
func copied(f api.Frame) api.Frame {
	f.Items, f.Extra, f.Live = slices.Clone(f.Items), slices.Clone(f.Extra), slices.Clone(f.Live)
	f.Leaves, f.Buckets = slices.Clone(f.Leaves), slices.Clone(f.Buckets)
	f.Event.Payload, f.Event.To = slices.Clone(f.Event.Payload), slices.Clone(f.Event.To)
	return f
}

// spoil writes over all that a frame's lists have, and behind them.
func spoil(f api.Frame) {
	clear(f.Items[:cap(f.Items)])
	clear(f.Extra[:cap(f.Extra)])
	clear(f.Live[:cap(f.Live)])
	clear(f.Leaves[:cap(f.Leaves)])
	clear(f.Buckets[:cap(f.Buckets)])
	clear(f.Event.Payload[:cap(f.Event.Payload)])
	clear(f.Event.To[:cap(f.Event.To)])
}

func TestNothingIsShared(t *testing.T) {
	for what, f := range good() {
		kept := copied(f)
		one, _ := frame.Bytes(f)
		two, _ := frame.Bytes(f)
		part := frame.ItemBytes(f.Items...)
		if !frame.May(f) || !frame.Same(f, kept) {
			t.Error(what, "was changed")
		}
		spoil(f)
		if !bytes.Equal(one, bytesByWords(kept)) || !bytes.Equal(part, itemsByWords(kept.Items)) {
			t.Error(what, "is shared with its bytes")
		}
		clear(one[:cap(one)])
		if !bytes.Equal(two, bytesByWords(kept)) {
			t.Error(what, "two answers share memory")
		}
		x, _ := frame.Of(two)
		y, _ := frame.Of(two)
		if !bytes.Equal(two, bytesByWords(kept)) {
			t.Error(what, "the bytes were changed")
		}
		clear(two[:cap(two)])
		spoil(x)
		if !frame.Same(y, kept) {
			t.Error(what, "is shared")
		}
	}
}

// No two lists of one answer share memory.
func TestListsAreApart(t *testing.T) {
	f := with(7, func(f *api.Frame) { f.Extra = []api.Dot{dot(2, 2), dot(3, 3)} })
	for _, want := range []api.Frame{f, plain(4), plain(2)} {
		for i, change := range []func(f *api.Frame){
			func(f *api.Frame) { clear(f.Items[:cap(f.Items)]); f.Items = want.Items },
			func(f *api.Frame) { clear(f.Extra[:cap(f.Extra)]); f.Extra = want.Extra },
			func(f *api.Frame) { clear(f.Live[:cap(f.Live)]); f.Live = want.Live },
			func(f *api.Frame) { clear(f.Buckets[:cap(f.Buckets)]); f.Buckets = want.Buckets },
			func(f *api.Frame) {
				clear(f.Event.Payload[:cap(f.Event.Payload)])
				f.Event.Payload = want.Event.Payload
			},
			func(f *api.Frame) { clear(f.Event.To[:cap(f.Event.To)]); f.Event.To = want.Event.To },
		} {
			got, _ := frame.Of(bytesByWords(want))
			change(&got)
			if !frame.Same(got, want) {
				t.Error(want.Kind, i, got)
			}
		}
	}
}
