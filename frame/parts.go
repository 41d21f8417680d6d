package frame

import (
	"cmp"
	"slices"

	"minster/api"
	"minster/wire"
)

// In how many bytes numbers stand.
const (
	byteSize  = 1 // kinds, regions, buckets and how many these are, yes and no
	countSize = 2 // how many items, or dots
	eventSize = 4 // how many bytes an event's are
)

// maxList is how many there may be in a list, for countSize's sake.
const maxList = 1<<(8*countSize) - 1

func areItems(l []api.Item) bool {
	return len(l) <= api.MaxItems && all(l, MayItem)
}

func areBuckets(l []int) bool {
	isBucket := func(n int) bool { return n >= 0 && n < api.Buckets }
	return len(l) >= 1 && all(l, isBucket) && rising(l, cmp.Less[int])
}

// number expects a size that n has room in.
func number(n uint64, size int) []byte {
	b, _ := wire.Put(n, size)
	return b
}

func flag(yes bool) []byte {
	if yes {
		return []byte{1}
	}
	return []byte{0}
}

// itemBytes expects an item that may be.
func itemBytes(i api.Item) []byte {
	dot, _ := wire.Dot(i.Dot)
	if i.Gone {
		return wire.Join(dot, flag(i.Gone))
	}
	topic, _ := wire.Blob([]byte(i.Key.Topic))
	device, _ := wire.Blob([]byte(i.Key.Device))
	return wire.Join(dot, flag(i.Gone), topic, device)
}

// dotBytes expects dots that may be, and no more of them than a frame may have.
func dotBytes(l []api.Dot) []byte {
	one := func(d api.Dot) []byte {
		b, _ := wire.Dot(d)
		return b
	}
	return wire.Join(number(uint64(len(l)), countSize), each(l, one))
}

func readByte(r *wire.Reader) int {
	return int(r.Number(byteSize))
}

// readFlag makes the reader fail where the byte is neither 1 nor 0: nothing has
// two texts.
func readFlag(r *wire.Reader) bool {
	n := readByte(r)
	if n > 1 {
		r.Bytes(-1)
	}
	return n == 1
}

func readItem(r *wire.Reader) api.Item {
	i := api.Item{Dot: r.Dot(), Gone: readFlag(r)}
	if !i.Gone {
		i.Key = api.Key{Topic: string(r.Blob()), Device: string(r.Blob())}
	}
	return i
}

func readDots(r *wire.Reader) []api.Dot {
	return list(r, r.Number(countSize), (*wire.Reader).Dot)
}

func readHash(r *wire.Reader) api.Hash {
	var h api.Hash
	copy(h[:], r.Bytes(len(h)))
	return h
}

// list reads so many, one behind the other. How many are said to follow is not
// to be trusted: it ends where the bytes do.
func list[T any](r *wire.Reader, many uint64, one func(*wire.Reader) T) []T {
	var l []T
	for range many {
		x := one(r)
		if r.Failed() {
			return nil
		}
		l = append(l, x)
	}
	return l
}

// each answers the bytes of all of a list, one behind the other.
func each[T any](l []T, one func(T) []byte) []byte {
	var b []byte
	for _, x := range l {
		b = append(b, one(x)...)
	}
	return b
}

// all answers whether something holds of all of a list.
func all[T any](l []T, holds func(T) bool) bool {
	return !slices.ContainsFunc(l, func(x T) bool { return !holds(x) })
}

// rising answers whether each of a list is less than the one behind it.
func rising[T any](l []T, less func(a, b T) bool) bool {
	for i := 1; i < len(l); i++ {
		if !less(l[i-1], l[i]) {
			return false
		}
	}
	return true
}
