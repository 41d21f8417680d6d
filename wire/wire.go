// Package wire is layer 1: numbers, blobs, dots and vectors as bytes, the
// highest byte first. A Reader takes such bytes apart again.
package wire

import (
	"slices"
	"strings"

	"minster/api"
)

// How many bytes things have.
const (
	maxSize  = 8 // a number, at most
	sizeSize = 2 // how long a blob is
	dotSize  = 1 + maxSize
)

const digits = "0123456789abcdef"

// Put answers n's bytes, so many of them.
func Put(n uint64, size int) ([]byte, api.Errno) {
	if size < 1 || size > maxSize || n>>(8*size) != 0 {
		return nil, api.ErrArg
	}
	return appendNumber(nil, n, size), api.OK
}

// Get answers the number of 1 to 8 bytes.
func Get(b []byte) (uint64, api.Errno) {
	if len(b) < 1 || len(b) > maxSize {
		return 0, api.ErrArg
	}
	return number(b), api.OK
}

// Blob answers how many bytes b has, and b behind that.
func Blob(b []byte) ([]byte, api.Errno) {
	if len(b) > api.MaxBlob {
		return nil, api.ErrLong
	}
	return Join(appendNumber(nil, uint64(len(b)), sizeSize), b), api.OK
}

// Dot answers a dot's bytes. Whether there may be such a dot is not asked
// here: only the Region must have room in its byte.
func Dot(d api.Dot) ([]byte, api.Errno) {
	if d.Region < 0 || d.Region > 255 {
		return nil, api.ErrArg
	}
	return appendNumber([]byte{byte(d.Region)}, d.Count, maxSize), api.OK
}

// Vector answers a vector's bytes.
func Vector(v api.Vector) []byte {
	var b []byte
	for _, n := range v {
		b = appendNumber(b, n, maxSize)
	}
	return b
}

// Join answers all lists, one behind the other.
func Join(l ...[]byte) []byte {
	var all []byte
	for _, b := range l {
		all = append(all, b...)
	}
	return all
}

// Hex answers the hexadecimal text of b.
func Hex(b []byte) string {
	text := make([]byte, 0, 2*len(b))
	for _, c := range b {
		text = append(text, digits[c>>4], digits[c&15])
	}
	return string(text)
}

// Unhex answers the bytes whose hexadecimal text s is.
func Unhex(s string) ([]byte, api.Errno) {
	if len(s)%2 != 0 {
		return nil, api.ErrBytes
	}
	b, code := make([]byte, len(s)/2), api.OK
text:
	for i := range b {
		for _, c := range []byte(s[2*i : 2*i+2]) {
			half := strings.IndexByte(digits, c)
			if half < 0 {
				b, code = nil, api.ErrBytes
				break text
			}
			b[i] = b[i]<<4 | byte(half)
		}
	}
	return b, code
}

// appendNumber expects a size that n has room in.
func appendNumber(b []byte, n uint64, size int) []byte {
	for size > 0 {
		size--
		b = append(b, byte(n>>(8*size)))
	}
	return b
}

// number expects at most 8 bytes.
func number(b []byte) uint64 {
	var n uint64
	for _, c := range b {
		n = n<<8 | uint64(c)
	}
	return n
}

// A Reader stands at a place in bytes of its own. Where a reading can't be
// done it has failed, and stays so.
type Reader struct {
	rest  []byte
	state state
}

type state int

// A zero reader is in the first of these, so that it is told from one that
// reads no bytes.
const (
	unmade state = iota
	reading
	failed
)

// Read answers a reader at the front of a copy of b.
func Read(b []byte) *Reader {
	return &Reader{rest: slices.Clone(b), state: reading}
}

// Number reads a number of so many bytes, 1 to 8.
func (r *Reader) Number(size int) uint64 {
	var n uint64
	r.take(size, func(part []byte) bool {
		var code api.Errno
		n, code = Get(part)
		return code == api.OK
	})
	return n
}

// Blob reads a blob.
func (r *Reader) Blob() []byte {
	return r.Bytes(int(r.Number(sizeSize)))
}

// Dot reads a dot.
func (r *Reader) Dot() api.Dot {
	var d api.Dot
	r.take(dotSize, func(part []byte) bool {
		d = api.Dot{Region: int(part[0]), Count: number(part[1:])}
		return true
	})
	return d
}

// Vector reads a vector.
func (r *Reader) Vector() api.Vector {
	var v api.Vector
	r.take(maxSize*len(v), func(part []byte) bool {
		for i := range v {
			v[i] = number(part[maxSize*i : maxSize*(i+1)])
		}
		return true
	})
	return v
}

// Bytes reads n bytes.
func (r *Reader) Bytes(n int) []byte {
	var b []byte
	r.take(n, func(part []byte) bool {
		b = part
		return true
	})
	return b
}

// Left answers how many bytes are left; of a reader that has failed, none.
func (r *Reader) Left() int {
	if r.Failed() {
		return 0
	}
	return len(r.rest)
}

// Failed answers whether the reader has failed, as a nil and a zero one have.
func (r *Reader) Failed() bool {
	return r == nil || r.state != reading
}

// End answers OK where all was read, and could be.
func (r *Reader) End() api.Errno {
	switch {
	case r == nil || r.state == unmade:
		return api.ErrNil
	case r.state == failed || len(r.rest) > 0:
		return api.ErrBytes
	}
	return api.OK
}

// take is what all readings are made of: it goes on behind the next size
// bytes, and hands them to use, which says whether they are as they should
// be. The part's capacity ends with it, so that who appends to what was
// answered does not write over what is still to be read.
func (r *Reader) take(size int, use func(part []byte) bool) {
	if r.Failed() {
		return
	}
	if size < 0 || size > len(r.rest) {
		r.fail()
		return
	}
	part := r.rest[:size:size]
	r.rest = r.rest[size:]
	if !use(part) {
		r.fail()
	}
}

func (r *Reader) fail() {
	r.rest, r.state = nil, failed
}
