package frame_test

import (
	"encoding/binary"
	"hash/crc32"
	"math"
	"math/rand/v2"
	"slices"
	"strings"
	"testing"

	"minster/api"
	"minster/frame"
)

const maxCount = 1 << 62

var kinds = []api.FrameKind{1, 2, 3, 4, 5, 6, 7}

// bytesByWords are a frame's bytes just as the chapter says them, also where it
// may not be, as far as its parts have room.
func bytesByWords(f api.Frame) []byte {
	return closed(toldByWords(f))
}

// closed is told with the library's sum behind it, the highest byte first.
func closed(told []byte) []byte {
	sum := crc32.Checksum(told, crc32.MakeTable(crc32.Castagnoli))
	return binary.BigEndian.AppendUint32(slices.Clip(told), sum)
}

// toldByWords is what stands ahead of the sum.
func toldByWords(f api.Frame) []byte {
	b := []byte{byte(f.Kind), byte(f.From), byte(f.To)}
	vector := func(v api.Vector) {
		for _, n := range v {
			b = binary.BigEndian.AppendUint64(b, n)
		}
	}
	dots := func(l []api.Dot) {
		b = binary.BigEndian.AppendUint16(b, uint16(len(l)))
		for _, d := range l {
			b = append(b, dotByWords(d)...)
		}
	}
	switch f.Kind {
	case 1:
		b = append(b, itemsByWords(f.Items)...)
	case 2:
		e := eventByWords(f.Event)
		b = append(binary.BigEndian.AppendUint32(b, uint32(len(e))), e...)
	case 3:
		vector(f.Past)
	case 4:
		vector(f.Seen)
		dots(f.Extra)
		dots(f.Live)
	case 5:
		b = append(b, f.Hash[:]...)
	case 6:
		for _, h := range f.Leaves {
			b = append(b, h[:]...)
		}
	case 7:
		b = append(b, byte(len(f.Buckets)))
		for _, n := range f.Buckets {
			b = append(b, byte(n))
		}
		b = append(b, itemsByWords(f.Items)...)
		vector(f.Seen)
		dots(f.Extra)
		b = append(b, byteOf(f.Reply))
	}
	return b
}

func itemsByWords(l []api.Item) []byte {
	b := binary.BigEndian.AppendUint16(nil, uint16(len(l)))
	for _, i := range l {
		b = append(b, dotByWords(i.Dot)...)
		b = append(b, byteOf(i.Gone))
		if !i.Gone {
			b = append(b, blobByWords(i.Key.Topic)...)
			b = append(b, blobByWords(i.Key.Device)...)
		}
	}
	return b
}

func eventByWords(e api.Event) []byte {
	b := slices.Concat(dotByWords(e.ID), blobByWords(e.Topic), blobByWords(string(e.Payload)))
	for _, n := range e.Past {
		b = binary.BigEndian.AppendUint64(b, n)
	}
	b = binary.BigEndian.AppendUint16(b, uint16(len(e.To)))
	for _, d := range e.To {
		b = slices.Concat(b, dotByWords(d.Dot), blobByWords(d.Device))
	}
	return b
}

func dotByWords(d api.Dot) []byte {
	return binary.BigEndian.AppendUint64([]byte{byte(d.Region)}, d.Count)
}

func blobByWords(s string) []byte {
	return append(binary.BigEndian.AppendUint16(nil, uint16(len(s))), s...)
}

func byteOf(yes bool) byte {
	if yes {
		return 1
	}
	return 0
}

func name(n int) string { return strings.Repeat("n", n) }

func dot(region int, count uint64) api.Dot { return api.Dot{Region: region, Count: count} }

func live(region int, count uint64, topic, device string) api.Item {
	return api.Item{Dot: dot(region, count), Key: api.Key{Topic: topic, Device: device}}
}

func gone(region int, count uint64) api.Item {
	return api.Item{Dot: dot(region, count), Gone: true}
}

// plainEvent is an event that may be, in new memory.
func plainEvent() api.Event {
	return api.Event{ID: dot(2, 5), Topic: "news", Payload: []byte("hello"), Past: api.Vector{7, 4, 0, 9}, To: []api.Dest{
		{Dot: dot(1, 3), Device: "a"}, {Dot: dot(1, 300), Device: "b"}, {Dot: dot(4, 2), Device: "a"}}}
}

func hashes(n int) []api.Hash {
	l := make([]api.Hash, n)
	for i := range l {
		for j := range l[i] {
			l[i][j] = byte(7*i + j)
		}
	}
	return l
}

func buckets(n int) []int {
	l := make([]int, n)
	for i := range l {
		l[i] = i
	}
	return l
}

// dots is n dots, rising, none of them within or next behind an empty vector.
func dots(n int) []api.Dot {
	l := make([]api.Dot, n)
	for i := range l {
		l[i] = dot(1+i*16/n, uint64(i+2))
	}
	return l
}

// items is n items, rising, some of them gone.
func items(n int) []api.Item {
	l := make([]api.Item, n)
	for i := range l {
		l[i] = live(1+i*16/n, uint64(i+1), "t"+name(i%32), name(1+i%32))
		if i%3 == 1 {
			l[i] = gone(1+i*16/n, uint64(i+1))
		}
	}
	return l
}

func all(n uint64) api.Vector {
	var v api.Vector
	for i := range v {
		v[i] = n
	}
	return v
}

// plain is a frame of a kind that may be, in new memory.
func plain(k api.FrameKind) api.Frame {
	f := api.Frame{Kind: k, From: 1, To: 2}
	switch k {
	case 1:
		f.Items = []api.Item{live(2, 9, "news", "a"), gone(1, 3), gone(2, 1)}
	case 2:
		f.Event = plainEvent()
	case 3:
		f.Past = api.Vector{1, 0, 258, 15: maxCount}
	case 4:
		f.Seen = api.Vector{5, 0, 7}
		f.Extra = []api.Dot{dot(1, 7), dot(1, 8), dot(2, 2), dot(16, 300)}
		f.Live = []api.Dot{dot(1, 1), dot(2, 2), dot(3, 7)}
	case 5:
		f.Hash = hashes(9)[8]
	case 6:
		f.Leaves = hashes(64)
	case 7:
		f.Buckets = []int{0, 7, 63}
		f.Items = []api.Item{gone(1, 3), live(1, 4, "news", "a"), live(3, 1, "x", "b")}
		f.Seen = api.Vector{4, 0, 1}
		f.Extra = []api.Dot{dot(2, 2)}
		f.Reply = true
	}
	return f
}

// with is the plain frame of a kind with a change.
func with(k api.FrameKind, change func(f *api.Frame)) api.Frame {
	f := plain(k)
	change(&f)
	return f
}

// greatest is a frame of all items that has all that it may have at most.
func greatest() api.Frame {
	f := api.Frame{Kind: 7, From: 16, To: 15, Buckets: buckets(64), Items: items(4096), Extra: dots(4096), Reply: true}
	for i := range f.Items {
		f.Items[i] = live(f.Items[i].Dot.Region, f.Items[i].Dot.Count, name(32), name(32))
	}
	return f
}

// good are frames that may be, by what is at an edge in them.
func good() map[string]api.Frame {
	l := map[string]api.Frame{
		"from 16 to 1":        with(5, func(f *api.Frame) { f.From, f.To = 16, 1 }),
		"from 1 to 16":        with(5, func(f *api.Frame) { f.From, f.To = 1, 16 }),
		"one item":            with(1, func(f *api.Frame) { f.Items = f.Items[:1] }),
		"the least":           with(1, func(f *api.Frame) { f.Items = []api.Item{gone(1, 1)} }),
		"falling items":       with(1, func(f *api.Frame) { slices.Reverse(f.Items) }),
		"an item twice":       with(1, func(f *api.Frame) { f.Items = append(f.Items, f.Items...) }),
		"4096 items":          with(1, func(f *api.Frame) { f.Items = items(4096) }),
		"the last dot":        with(1, func(f *api.Frame) { f.Items[1].Dot = dot(16, maxCount) }),
		"long names":          with(1, func(f *api.Frame) { f.Items[0].Key = api.Key{Topic: name(32), Device: name(32)} }),
		"odd names":           with(1, func(f *api.Frame) { f.Items[0].Key = api.Key{Topic: "\x00", Device: "\xff\xfe"} }),
		"no payload":          with(2, func(f *api.Frame) { f.Event.Payload = nil }),
		"to nobody":           with(2, func(f *api.Frame) { f.Event.To = []api.Dest{} }),
		"512 of payload":      with(2, func(f *api.Frame) { f.Event.Payload = make([]byte, 512) }),
		"the least event":     with(2, func(f *api.Frame) { f.Event = api.Event{ID: dot(1, 1), Topic: "t"} }),
		"another one's event": with(2, func(f *api.Frame) { f.From, f.To = 7, 2 }),
		"nothing had":         with(3, func(f *api.Frame) { f.Past = api.Vector{} }),
		"all had":             with(3, func(f *api.Frame) { f.Past = all(maxCount) }),
		"nothing known":       {Kind: 4, From: 1, To: 2},
		"no exceptions":       with(4, func(f *api.Frame) { f.Extra = nil }),
		"4096 exceptions":     with(4, func(f *api.Frame) { f.Seen, f.Extra = api.Vector{}, dots(4096) }),
		"all known":           with(4, func(f *api.Frame) { f.Seen, f.Extra = all(maxCount), nil }),
		"the last exception":  with(4, func(f *api.Frame) { f.Extra = []api.Dot{dot(16, maxCount)} }),
		"none live":           with(4, func(f *api.Frame) { f.Live = []api.Dot{} }),
		"1024 live":           with(4, func(f *api.Frame) { f.Live = dots(1024) }),
		"live, but not seen":  with(4, func(f *api.Frame) { f.Live = []api.Dot{dot(16, maxCount)} }),
		"a hash of noughts":   with(5, func(f *api.Frame) { f.Hash = api.Hash{} }),
		"leaves of noughts":   with(6, func(f *api.Frame) { f.Leaves = make([]api.Hash, 64) }),
		"all buckets":         with(7, func(f *api.Frame) { f.Buckets = buckets(64) }),
		"the first bucket":    with(7, func(f *api.Frame) { f.Buckets = []int{0} }),
		"the last bucket":     with(7, func(f *api.Frame) { f.Buckets = []int{63} }),
		"nothing there":       {Kind: 7, From: 2, To: 1, Buckets: []int{5}},
		"no items":            with(7, func(f *api.Frame) { f.Items = nil }),
		"no reply":            with(7, func(f *api.Frame) { f.Reply = false }),
		"the greatest":        greatest(),
	}
	for _, k := range kinds {
		l["plain "+frame.Name(k)] = plain(k)
	}
	return l
}

// badItems are items that may not be.
func badItems() map[string]api.Item {
	return map[string]api.Item{
		"zero":             {},
		"region 0":         live(0, 1, "t", "d"),
		"region 17":        live(17, 1, "t", "d"),
		"region -1":        live(-1, 1, "t", "d"),
		"region 257":       live(257, 1, "t", "d"),
		"least region":     live(math.MinInt, 1, "t", "d"),
		"count 0":          live(1, 0, "t", "d"),
		"count too great":  live(1, maxCount+1, "t", "d"),
		"greatest count":   live(1, math.MaxUint64, "t", "d"),
		"no topic":         live(1, 1, "", "d"),
		"no device":        live(1, 1, "t", ""),
		"no key":           live(1, 1, "", ""),
		"33 of topic":      live(1, 1, name(33), "d"),
		"33 of device":     live(1, 1, "t", name(33)),
		"65536 of topic":   live(1, 1, name(65536), "d"),
		"gone, region 0":   gone(0, 1),
		"gone, region 17":  gone(17, 1),
		"gone, count 0":    gone(1, 0),
		"gone, too great":  gone(1, maxCount+1),
		"gone with a key":  {Dot: dot(1, 1), Key: api.Key{Topic: "t", Device: "d"}, Gone: true},
		"gone with topic":  {Dot: dot(1, 1), Key: api.Key{Topic: "t"}, Gone: true},
		"gone with device": {Dot: dot(1, 1), Key: api.Key{Device: "d"}, Gone: true},
	}
}

// bad are frames that may not be, for what they name, by what is wrong with it.
func bad() map[string]api.Frame {
	l := map[string]api.Frame{
		"nothing told":          {Kind: 1, From: 1, To: 2},
		"an empty list":         {Kind: 1, From: 1, To: 2, Items: []api.Item{}},
		"4097 items":            with(1, func(f *api.Frame) { f.Items = items(4097) }),
		"65535 items":           with(1, func(f *api.Frame) { f.Items = items(65535) }),
		"65537 items":           with(1, func(f *api.Frame) { f.Items = items(65537) }),
		"no event":              {Kind: 2, From: 1, To: 2},
		"no such region":        with(2, func(f *api.Frame) { f.Event.ID.Region = 17 }),
		"no topic":              with(2, func(f *api.Frame) { f.Event.Topic = "" }),
		"513 of payload":        with(2, func(f *api.Frame) { f.Event.Payload = make([]byte, 513) }),
		"another past":          with(2, func(f *api.Frame) { f.Event.Past[1] = 5 }),
		"falling dests":         with(2, func(f *api.Frame) { f.Event.To[0].Dot = dot(5, 1) }),
		"a dest twice":          with(2, func(f *api.Frame) { f.Event.To[1].Dot = dot(1, 3) }),
		"1025 dests":            with(2, func(f *api.Frame) { f.Event.To = make([]api.Dest, 1025) }),
		"live falling":          with(4, func(f *api.Frame) { slices.Reverse(f.Live) }),
		"live twice":            with(4, func(f *api.Frame) { f.Live[1] = f.Live[0] }),
		"live of region 0":      with(4, func(f *api.Frame) { f.Live[0].Region = 0 }),
		"live of region 17":     with(4, func(f *api.Frame) { f.Live[2].Region = 17 }),
		"live of count 0":       with(4, func(f *api.Frame) { f.Live[0].Count = 0 }),
		"live, too great":       with(4, func(f *api.Frame) { f.Live[2].Count = maxCount + 1 }),
		"1025 live":             with(4, func(f *api.Frame) { f.Live = dots(1025) }),
		"no leaves":             with(6, func(f *api.Frame) { f.Leaves = nil }),
		"63 leaves":             with(6, func(f *api.Frame) { f.Leaves = hashes(63) }),
		"65 leaves":             with(6, func(f *api.Frame) { f.Leaves = hashes(65) }),
		"128 leaves":            with(6, func(f *api.Frame) { f.Leaves = hashes(128) }),
		"no buckets":            with(7, func(f *api.Frame) { f.Buckets = nil }),
		"bucket 64":             with(7, func(f *api.Frame) { f.Buckets[2] = 64 }),
		"bucket 255":            with(7, func(f *api.Frame) { f.Buckets[2] = 255 }),
		"bucket 319":            with(7, func(f *api.Frame) { f.Buckets[2] = 319 }),
		"bucket -1":             with(7, func(f *api.Frame) { f.Buckets[0] = -1 }),
		"the least bucket":      with(7, func(f *api.Frame) { f.Buckets[0] = math.MinInt }),
		"buckets falling":       with(7, func(f *api.Frame) { f.Buckets = []int{7, 0} }),
		"a bucket twice":        with(7, func(f *api.Frame) { f.Buckets = []int{7, 7} }),
		"the last bucket twice": with(7, func(f *api.Frame) { f.Buckets = append(buckets(64), 63) }),
		"65 buckets":            with(7, func(f *api.Frame) { f.Buckets = buckets(65) }),
		"257 buckets":           with(7, func(f *api.Frame) { f.Buckets = make([]int, 257) }),
		"items falling":         with(7, func(f *api.Frame) { slices.Reverse(f.Items) }),
		"an item twice":         with(7, func(f *api.Frame) { f.Items = append(f.Items, f.Items[2]) }),
		"a dot live and gone":   with(7, func(f *api.Frame) { f.Items[0].Dot = f.Items[1].Dot }),
		"4097 items there":      with(7, func(f *api.Frame) { f.Items = items(4097) }),
	}
	for i := range api.MaxRegions {
		l["had of "+name(i)] = with(3, func(f *api.Frame) { f.Past[i] = maxCount + 1 })
	}
	l["had, greatest"] = with(3, func(f *api.Frame) { f.Past = all(math.MaxUint64) })
	for _, k := range []api.FrameKind{4, 7} {
		for what, change := range badContexts() {
			l[frame.Name(k)+": "+what] = with(k, change)
		}
	}
	for _, k := range []api.FrameKind{1, 7} {
		for what, i := range badItems() {
			l[frame.Name(k)+": alone "+what] = with(k, func(f *api.Frame) { f.Items = []api.Item{i} })
			l[frame.Name(k)+": last "+what] = with(k, func(f *api.Frame) { f.Items = append(f.Items[:1], i) })
		}
	}
	return l
}

// badContexts are changes behind which a frame's context may not be.
func badContexts() map[string]func(f *api.Frame) {
	extra := func(l ...api.Dot) func(f *api.Frame) {
		return func(f *api.Frame) { f.Seen, f.Extra = api.Vector{5, 0, 7}, l }
	}
	return map[string]func(f *api.Frame){
		"within":            extra(dot(1, 5)),
		"next behind":       extra(dot(1, 6)),
		"next behind 0":     extra(dot(2, 1)),
		"falling":           extra(dot(2, 2), dot(1, 7)),
		"falling counts":    extra(dot(2, 3), dot(2, 2)),
		"twice":             extra(dot(2, 2), dot(2, 2)),
		"region 0":          extra(dot(0, 9)),
		"region 17":         extra(dot(17, 9)),
		"count 0":           extra(dot(4, 0)),
		"too great":         extra(dot(4, maxCount+1)),
		"vector, too great": func(f *api.Frame) { f.Seen[9] = maxCount + 1 },
		"vector, greatest":  func(f *api.Frame) { f.Seen[0] = math.MaxUint64 },
		"4097":              func(f *api.Frame) { f.Seen, f.Extra = api.Vector{}, dots(4097) },
		"65535":             func(f *api.Frame) { f.Seen, f.Extra = api.Vector{}, dots(65535) },
	}
}

// field is a change that fills something, and the kinds of which the plain
// frame may be then, too.
type field struct {
	fill  func(f *api.Frame)
	kinds []api.FrameKind
}

// fields are what frames of whatever kind may have filled.
func fields() map[string]field {
	return map[string]field{
		"items":         {func(f *api.Frame) { f.Items = []api.Item{gone(9, 9)} }, []api.FrameKind{1, 7}},
		"zero items":    {func(f *api.Frame) { f.Items = make([]api.Item, 1) }, nil},
		"event":         {func(f *api.Frame) { f.Event = plainEvent() }, []api.FrameKind{2}},
		"event ID":      {func(f *api.Frame) { f.Event.ID.Count++ }, nil},
		"event region":  {func(f *api.Frame) { f.Event.ID.Region-- }, nil},
		"event topic":   {func(f *api.Frame) { f.Event.Topic += "t" }, []api.FrameKind{2}},
		"event payload": {func(f *api.Frame) { f.Event.Payload = []byte{0} }, []api.FrameKind{2}},
		"event past":    {func(f *api.Frame) { f.Event.Past[11] = 1 }, []api.FrameKind{2}},
		"event to":      {func(f *api.Frame) { f.Event.To = []api.Dest{{Dot: dot(1, 1), Device: "d"}} }, []api.FrameKind{2}},
		"zero event to": {func(f *api.Frame) { f.Event.To = make([]api.Dest, 1) }, nil},
		"past":          {func(f *api.Frame) { f.Past[0] = 1 }, []api.FrameKind{3}},
		"past of 16":    {func(f *api.Frame) { f.Past[15] = 1 }, []api.FrameKind{3}},
		"seen":          {func(f *api.Frame) { f.Seen[0] = 5 }, []api.FrameKind{4, 7}},
		"seen of 16":    {func(f *api.Frame) { f.Seen[15] = 5 }, []api.FrameKind{4, 7}},
		"extra":         {func(f *api.Frame) { f.Extra = []api.Dot{dot(7, 7)} }, []api.FrameKind{4, 7}},
		"zero extra":    {func(f *api.Frame) { f.Extra = make([]api.Dot, 1) }, nil},
		"live":          {func(f *api.Frame) { f.Live = []api.Dot{dot(7, 7)} }, []api.FrameKind{4}},
		"zero live":     {func(f *api.Frame) { f.Live = make([]api.Dot, 1) }, nil},
		"hash":          {func(f *api.Frame) { f.Hash[31] ^= 1 }, []api.FrameKind{5}},
		"leaves":        {func(f *api.Frame) { f.Leaves = hashes(64) }, []api.FrameKind{6}},
		"one leaf":      {func(f *api.Frame) { f.Leaves = make([]api.Hash, 1) }, nil},
		"buckets":       {func(f *api.Frame) { f.Buckets = []int{9} }, []api.FrameKind{7}},
		"reply":         {func(f *api.Frame) { f.Reply = true }, []api.FrameKind{7}},
	}
}

// random is some frame of a kind that may be.
func random(g *rand.Rand, k api.FrameKind) api.Frame {
	f := api.Frame{Kind: k, From: 1 + g.IntN(16)}
	f.To = 1 + (f.From+g.IntN(15))%16
	switch k {
	case 1:
		f.Items = randomItems(g, 1+g.IntN(8))
		g.Shuffle(len(f.Items), func(i, j int) { f.Items[i], f.Items[j] = f.Items[j], f.Items[i] })
	case 2:
		f.Event = randomEvent(g)
	case 3:
		f.Past = randomVector(g)
	case 4:
		f.Seen, f.Extra = randomContext(g)
		f.Live = randomDots(g, g.IntN(8))
	case 5:
		f.Hash = randomHash(g)
	case 6:
		for range 64 {
			f.Leaves = append(f.Leaves, randomHash(g))
		}
	case 7:
		for n := range 64 {
			if g.IntN(8) == 0 {
				f.Buckets = append(f.Buckets, n)
			}
		}
		if len(f.Buckets) == 0 {
			f.Buckets = []int{g.IntN(64)}
		}
		f.Items = randomItems(g, g.IntN(8))
		f.Seen, f.Extra = randomContext(g)
		f.Reply = g.IntN(2) == 0
	}
	return f
}

func randomText(g *rand.Rand, n int) string {
	b := make([]byte, n)
	for i := range b {
		b[i] = byte(g.Uint32())
	}
	return string(b)
}

func randomHash(g *rand.Rand) api.Hash {
	return api.Hash([]byte(randomText(g, 32)))
}

func randomVector(g *rand.Rand) api.Vector {
	var v api.Vector
	for i := range v {
		v[i] = g.Uint64N(maxCount+1) >> g.IntN(63)
	}
	return v
}

// randomDots are rising.
func randomDots(g *rand.Rand, n int) []api.Dot {
	var l []api.Dot
	for len(l) < n {
		d := dot(1+g.IntN(16), 1+g.Uint64N(maxCount)>>g.IntN(62))
		if !slices.Contains(l, d) {
			l = append(l, d)
		}
	}
	slices.SortFunc(l, func(a, b api.Dot) int {
		if a.Region < b.Region || a.Region == b.Region && a.Count < b.Count {
			return -1
		}
		return 1
	})
	return l
}

func randomItems(g *rand.Rand, n int) []api.Item {
	var l []api.Item
	for _, d := range randomDots(g, n) {
		i := gone(d.Region, d.Count)
		if g.IntN(2) == 0 {
			i = live(d.Region, d.Count, randomText(g, 1+g.IntN(32)), randomText(g, 1+g.IntN(32)))
		}
		l = append(l, i)
	}
	return l
}

func randomContext(g *rand.Rand) (api.Vector, []api.Dot) {
	var v api.Vector
	for i := range v {
		v[i] = g.Uint64N(maxCount) >> (1 + g.IntN(62))
	}
	extra := randomDots(g, g.IntN(8))
	return v, slices.DeleteFunc(extra, func(d api.Dot) bool { return d.Count <= v[d.Region-1]+1 })
}

func randomEvent(g *rand.Rand) api.Event {
	e := api.Event{ID: dot(1+g.IntN(16), 1+g.Uint64N(maxCount)>>g.IntN(62)), Topic: randomText(g, 1+g.IntN(32)), Past: randomVector(g)}
	e.Payload = []byte(randomText(g, g.IntN(20)))
	e.Past[e.ID.Region-1] = e.ID.Count - 1
	for _, d := range randomDots(g, g.IntN(6)) {
		e.To = append(e.To, api.Dest{Dot: d, Device: randomText(g, 1+g.IntN(32))})
	}
	return e
}

// The chapter's examples.
func TestExamples(t *testing.T) {
	b, code := frame.Bytes(api.Frame{Kind: api.FrameHave, From: 1, To: 2})
	if code != api.OK || len(b) != 135 || !slices.Equal(b[:3], []byte{3, 1, 2}) {
		t.Error(b, code)
	}
	if frame.May(api.Frame{Kind: api.FrameRoot, From: 1, To: 1}) {
		t.Error("a root from 1 to 1")
	}
	if f, code := frame.Of(nil); code != api.ErrBytes || !isZero(f) {
		t.Error(f, code)
	}
	if s := frame.Name(7); s != "items" {
		t.Error(s)
	}
}

// P11.1

func TestMay(t *testing.T) {
	for what, f := range good() {
		if !frame.May(f) {
			t.Error(what)
		}
	}
	for what, f := range bad() {
		if frame.May(f) {
			t.Error(what)
		}
	}
	g := rand.New(rand.NewPCG(11, 1))
	for range 2000 {
		for _, k := range kinds {
			if f := random(g, k); !frame.May(f) {
				t.Fatal(f)
			}
		}
	}
}

func TestMayOfRegions(t *testing.T) {
	edges := []int{math.MinInt, -1, 0, 17, 255, 256, 257, 258, math.MaxInt}
	for _, k := range kinds {
		for from := -2; from <= 20; from++ {
			for to := -2; to <= 20; to++ {
				f := with(k, func(f *api.Frame) { f.From, f.To = from, to })
				want := from >= 1 && from <= 16 && to >= 1 && to <= 16 && from != to
				if frame.May(f) != want {
					t.Error(k, from, to)
				}
			}
		}
		for _, n := range edges {
			if frame.May(with(k, func(f *api.Frame) { f.From = n })) || frame.May(with(k, func(f *api.Frame) { f.To = n })) {
				t.Error(k, n)
			}
		}
	}
}

// otherKinds are no kinds, some of them one in their lowest byte.
func otherKinds() []api.FrameKind {
	return []api.FrameKind{math.MinInt, -1, 0, 8, 9, 127, 128, 255, 256, 257, 258, 259, 260, 261, 262, 263, 264, math.MaxInt}
}

func TestMayOfOtherKinds(t *testing.T) {
	for _, other := range otherKinds() {
		for _, k := range kinds {
			if frame.May(with(k, func(f *api.Frame) { f.Kind = other })) {
				t.Error(k, "as", other)
			}
		}
		if frame.May(api.Frame{Kind: other, From: 1, To: 2}) {
			t.Error(other)
		}
	}
	if frame.May(api.Frame{}) {
		t.Error("a zero frame")
	}
}

// What a kind does not name is zero.
func TestMayOfWhatIsNotNamed(t *testing.T) {
	for what, field := range fields() {
		for _, k := range kinds {
			f := with(k, field.fill)
			want := slices.Contains(field.kinds, k)
			if frame.May(f) != want {
				t.Error(what, "of", frame.Name(k))
			}
			if b, code := frame.Bytes(f); !want && (len(b) != 0 || code != api.ErrArg) {
				t.Error(what, "of", frame.Name(k), code)
			}
		}
	}
}

// Nil and empty lists are one.
func TestMayOfEmptyLists(t *testing.T) {
	for _, k := range kinds {
		f := with(k, func(f *api.Frame) {
			if len(f.Items) == 0 {
				f.Items = []api.Item{}
			}
			if len(f.Extra) == 0 {
				f.Extra = make([]api.Dot, 0, 9)
			}
			if len(f.Live) == 0 {
				f.Live = []api.Dot{}
			}
			if len(f.Leaves) == 0 {
				f.Leaves = []api.Hash{}
			}
			if len(f.Buckets) == 0 {
				f.Buckets = []int{}
			}
			if k != api.FrameEvent {
				f.Event.Payload, f.Event.To = []byte{}, []api.Dest{}
			}
		})
		b, code := frame.Bytes(f)
		if !frame.May(f) || !frame.Same(f, plain(k)) || code != api.OK || !slices.Equal(b, bytesByWords(f)) {
			t.Error(k, code)
		}
	}
}

func TestMayItem(t *testing.T) {
	for what, i := range badItems() {
		if frame.MayItem(i) {
			t.Error(what)
		}
	}
	for _, n := range []int{1, 2, 31, 32} {
		for _, region := range []int{1, 2, 15, 16} {
			for _, count := range []uint64{1, 2, 1 << 32, maxCount - 1, maxCount} {
				for _, i := range []api.Item{live(region, count, name(n), "d"), live(region, count, "t", name(n)), gone(region, count)} {
					if !frame.MayItem(i) {
						t.Error(i)
					}
				}
			}
		}
	}
	for c := range 256 {
		s := string([]byte{byte(c)})
		if !frame.MayItem(live(1, 1, s, s)) {
			t.Error(c)
		}
	}
}

// P11.2

func TestName(t *testing.T) {
	for i, want := range []string{"delta", "event", "have", "known", "root", "leaves", "items"} {
		if s := frame.Name(api.FrameKind(i + 1)); s != want {
			t.Error(i, s)
		}
	}
	for _, k := range otherKinds() {
		if s := frame.Name(k); s != "" {
			t.Error(k, s)
		}
	}
}

func TestSame(t *testing.T) {
	l := good()
	for what, f := range bad() {
		l["bad: "+what] = f
	}
	for what, f := range l {
		if !frame.Same(f, f) {
			t.Error(what)
		}
	}
	for _, a := range kinds {
		for _, b := range kinds {
			if frame.Same(plain(a), plain(b)) != (a == b) {
				t.Error(a, b)
			}
		}
	}
	if !frame.Same(api.Frame{}, api.Frame{}) || frame.Same(api.Frame{}, plain(3)) {
		t.Error("zero frames")
	}
}

// Each thing that two frames may differ in counts, whether the kind names it or
// not.
func TestSameOfEachField(t *testing.T) {
	changes := map[string]func(f *api.Frame){
		"kind":      func(f *api.Frame) { f.Kind += 7 },
		"from":      func(f *api.Frame) { f.From = 9 },
		"to":        func(f *api.Frame) { f.To = 9 },
		"bucket 0":  func(f *api.Frame) { f.Buckets = []int{0} },
		"zero leaf": func(f *api.Frame) { f.Leaves = make([]api.Hash, 1) },
	}
	for what, field := range fields() {
		changes[what] = field.fill
	}
	for what, change := range changes {
		for _, f := range []api.Frame{{}, {Kind: 3, From: 1, To: 2}, {Kind: 99, From: -1}} {
			other := f
			change(&other)
			if frame.Same(f, other) || frame.Same(other, f) || !frame.Same(other, other) {
				t.Error(what, "of", f.Kind)
			}
		}
	}
	f := plain(7)
	f.Reply = false
	if frame.Same(f, plain(7)) || frame.Same(plain(7), f) {
		t.Error("reply")
	}
}

// Each place of each list counts.
func TestSameOfEachPlace(t *testing.T) {
	full := func() api.Frame {
		return api.Frame{Items: items(5), Event: plainEvent(), Past: all(3), Seen: all(4), Extra: dots(5), Live: dots(6), Leaves: hashes(5), Buckets: buckets(5)}
	}
	var changes []func(f *api.Frame)
	for i := range 5 {
		changes = append(changes,
			func(f *api.Frame) { f.Items[i].Dot.Count++ },
			func(f *api.Frame) { f.Items[i].Dot.Region++ },
			func(f *api.Frame) { f.Items[i].Key.Topic += "x" },
			func(f *api.Frame) { f.Items[i].Key.Device += "x" },
			func(f *api.Frame) { f.Items[i].Gone = !f.Items[i].Gone },
			func(f *api.Frame) { f.Extra[i].Count++ },
			func(f *api.Frame) { f.Extra[i].Region++ },
			func(f *api.Frame) { f.Live[i].Count++ },
			func(f *api.Frame) { f.Live[i].Region++ },
			func(f *api.Frame) { f.Leaves[i][31]++ },
			func(f *api.Frame) { f.Buckets[i]++ },
			func(f *api.Frame) { f.Event.Payload[i]++ },
			func(f *api.Frame) { f.Event.To[i%3].Device += "x" },
			func(f *api.Frame) { f.Items = slices.Delete(f.Items, i, i+1) },
			func(f *api.Frame) { f.Extra = slices.Delete(f.Extra, i, i+1) },
			func(f *api.Frame) { f.Live = slices.Delete(f.Live, i, i+1) },
			func(f *api.Frame) { f.Leaves = slices.Delete(f.Leaves, i, i+1) },
			func(f *api.Frame) { f.Buckets = slices.Delete(f.Buckets, i, i+1) },
		)
	}
	for i := range api.MaxRegions {
		changes = append(changes,
			func(f *api.Frame) { f.Past[i]++ },
			func(f *api.Frame) { f.Seen[i]++ },
			func(f *api.Frame) { f.Event.Past[i]++ },
			func(f *api.Frame) { f.Hash[2*i]++ },
			func(f *api.Frame) { f.Hash[2*i+1]++ },
		)
	}
	for i, change := range changes {
		a, b := full(), full()
		if !frame.Same(a, b) {
			t.Fatal("two that are the same")
		}
		change(&b)
		if frame.Same(a, b) || frame.Same(b, a) {
			t.Error(i)
		}
	}
}

func TestItemBytes(t *testing.T) {
	for _, n := range []int{0, 1, 2, 3, 255, 256, 257, 4095, 4096, 4097, 65534, 65535} {
		l := items(max(n, 1))[:n]
		if b := frame.ItemBytes(l...); !slices.Equal(b, itemsByWords(l)) {
			t.Error(n, len(b))
		}
	}
	for _, n := range []int{65536, 65537, 1 << 17} {
		if b := frame.ItemBytes(slices.Repeat([]api.Item{gone(1, 1)}, n)...); len(b) != 0 {
			t.Error(n, len(b))
		}
	}
	for what, i := range badItems() {
		for _, l := range [][]api.Item{{i}, {gone(1, 1), i}, {i, gone(1, 1)}, append(items(300), i)} {
			if b := frame.ItemBytes(l...); len(b) != 0 {
				t.Error(what, len(l), len(b))
			}
		}
	}
	want := []byte{0, 3,
		2, 0, 0, 0, 0, 0, 0, 1, 2, 0, 0, 2, 'a', 'b', 0, 1, 'c',
		16, 64, 0, 0, 0, 0, 0, 0, 0, 1,
		1, 0, 0, 0, 0, 0, 0, 0, 1, 0, 0, 1, 0, 0, 1, 255}
	if b := frame.ItemBytes(live(2, 258, "ab", "c"), gone(16, maxCount), live(1, 1, "\x00", "\xff")); !slices.Equal(b, want) {
		t.Error(b)
	}
	if b := frame.ItemBytes(); !slices.Equal(b, []byte{0, 0}) {
		t.Error(b)
	}
}

// The items of a frame are told in it as ItemBytes tells them, in any order.
func TestItemBytesAreAFrames(t *testing.T) {
	g := rand.New(rand.NewPCG(11, 2))
	for range 500 {
		for _, f := range []api.Frame{random(g, 1), random(g, 7)} {
			b, _ := frame.Bytes(f)
			at := 3
			if f.Kind == 7 {
				at += 1 + len(f.Buckets)
			}
			part := frame.ItemBytes(f.Items...)
			if !slices.Equal(b[at:at+len(part)], part) {
				t.Fatal(f)
			}
		}
	}
}
