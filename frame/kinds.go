package frame

import (
	"slices"

	"minster/api"
	"minster/ctx"
	"minster/event"
	"minster/wire"
)

// body is a frame, of which its kind's methods take what the kind names.
type body api.Frame

// kind is a kind's name, and what is done with that which it names.
type kind struct {
	name  string
	may   func(body) bool
	write func(body) []byte
	read  func(*body, *wire.Reader)
}

// kinds has a row a kind, so that nothing else need ask which kind a frame is.
func kinds() map[api.FrameKind]kind {
	return map[api.FrameKind]kind{
		api.FrameDelta:  {"delta", body.mayDelta, body.writeDelta, (*body).readDelta},
		api.FrameEvent:  {"event", body.mayEvent, body.writeEvent, (*body).readEvent},
		api.FrameHave:   {"have", body.mayHave, body.writeHave, (*body).readHave},
		api.FrameKnown:  {"known", body.mayKnown, body.writeKnown, (*body).readKnown},
		api.FrameRoot:   {"root", body.mayRoot, body.writeRoot, (*body).readRoot},
		api.FrameLeaves: {"leaves", body.mayLeaves, body.writeLeaves, (*body).readLeaves},
		api.FrameItems:  {"items", body.mayItems, body.writeItems, (*body).readItems},
	}
}

// hasOnly answers whether a frame has nothing beyond what is named.
func (f body) hasOnly(named api.Frame) bool {
	named.Kind, named.From, named.To = f.Kind, f.From, f.To
	return Same(api.Frame(f), named)
}

func (f body) mayDelta() bool {
	return f.hasOnly(api.Frame{Items: f.Items}) && len(f.Items) >= 1 && areItems(f.Items)
}

func (f body) writeDelta() []byte {
	return ItemBytes(f.Items...)
}

func (f *body) readDelta(r *wire.Reader) {
	f.Items = list(r, r.Number(countSize), readItem)
}

func (f body) mayEvent() bool {
	return f.hasOnly(api.Frame{Event: f.Event}) && event.May(f.Event)
}

func (f body) writeEvent() []byte {
	b, _ := event.Bytes(f.Event)
	return wire.Join(number(uint64(len(b)), eventSize), b)
}

// readEvent leaves the zero event, which may not be, where the bytes are none's.
func (f *body) readEvent(r *wire.Reader) {
	f.Event, _ = event.Of(r.Bytes(int(r.Number(eventSize))))
}

func (f body) mayHave() bool {
	return f.hasOnly(api.Frame{Past: f.Past}) && slices.Max(f.Past[:]) <= api.MaxCount
}

func (f body) writeHave() []byte {
	return wire.Vector(f.Past)
}

func (f *body) readHave(r *wire.Reader) {
	f.Past = r.Vector()
}

func (f body) mayKnown() bool {
	return f.hasOnly(api.Frame{Seen: f.Seen, Extra: f.Extra, Live: f.Live}) && f.mayContext() &&
		len(f.Live) <= api.MaxLive && all(f.Live, ctx.May) && rising(f.Live, ctx.Less)
}

func (f body) writeKnown() []byte {
	return wire.Join(f.writeContext(), dotBytes(f.Live))
}

func (f *body) readKnown(r *wire.Reader) {
	f.readContext(r)
	f.Live = readDots(r)
}

func (f body) mayRoot() bool {
	return f.hasOnly(api.Frame{Hash: f.Hash})
}

func (f body) writeRoot() []byte {
	return f.Hash[:]
}

func (f *body) readRoot(r *wire.Reader) {
	f.Hash = readHash(r)
}

func (f body) mayLeaves() bool {
	return f.hasOnly(api.Frame{Leaves: f.Leaves}) && len(f.Leaves) == api.Buckets
}

func (f body) writeLeaves() []byte {
	return each(f.Leaves, func(h api.Hash) []byte { return h[:] })
}

func (f *body) readLeaves(r *wire.Reader) {
	f.Leaves = list(r, api.Buckets, readHash)
}

func (f body) mayItems() bool {
	named := api.Frame{Buckets: f.Buckets, Items: f.Items, Seen: f.Seen, Extra: f.Extra, Reply: f.Reply}
	return f.hasOnly(named) && areBuckets(f.Buckets) && areItems(f.Items) && f.mayContext() &&
		rising(f.Items, func(a, b api.Item) bool { return ctx.Less(a.Dot, b.Dot) })
}

func (f body) writeItems() []byte {
	buckets := each(f.Buckets, func(n int) []byte { return []byte{byte(n)} })
	return wire.Join(number(uint64(len(f.Buckets)), byteSize), buckets, ItemBytes(f.Items...), f.writeContext(), flag(f.Reply))
}

func (f *body) readItems(r *wire.Reader) {
	f.Buckets = list(r, r.Number(byteSize), readByte)
	f.Items = list(r, r.Number(countSize), readItem)
	f.readContext(r)
	f.Reply = readFlag(r)
}

// A context is named by two kinds, and stands in both alike.

func (f body) mayContext() bool {
	_, code := ctx.Of(f.Seen, f.Extra)
	return code == api.OK
}

func (f body) writeContext() []byte {
	return wire.Join(wire.Vector(f.Seen), dotBytes(f.Extra))
}

func (f *body) readContext(r *wire.Reader) {
	f.Seen = r.Vector()
	f.Extra = readDots(r)
}
