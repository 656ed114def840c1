// Package octet encodes and decodes big-endian unsigned integers in byte slices.
package octet

import (
	"bytes"

	"counterfoil/api"
)

// most is how many bytes an integer has at most.
const most = 8

// Put returns b followed by the low size bytes of n, most significant byte first.
func Put(b []byte, n uint64, size int) []byte {
	size = min(max(size, 0), most)
	out := make([]byte, len(b), len(b)+size)
	copy(out, b)
	for i := size - 1; i >= 0; i-- {
		out = append(out, byte(n>>(8*i)))
	}
	return out
}

// Set returns b with the size bytes from index at on replaced by those of n; ErrShort: they do not all lie within b.
func Set(b []byte, at int, n uint64, size int) ([]byte, api.Errno) {
	if size < 1 || size > most || at < 0 || at > len(b)-size {
		return nil, api.ErrShort
	}
	out := make([]byte, len(b))
	copy(out, b)
	copy(out[at:], Put(nil, n, size))
	return out, api.OK
}

// Equal reports whether a and b have the same bytes.
func Equal(a, b []byte) bool { return bytes.Equal(a, b) }

// Reader consumes integers and bytes from the front of a byte slice.
type Reader struct {
	left []byte
	bad  bool
}

// Read returns a Reader at the beginning of b. It reads a copy, so that later changes of b do not show.
func Read(b []byte) *Reader { return &Reader{left: bytes.Clone(b)} }

// take consumes n bytes; if they are not there, it consumes all and the Reader is bad from then on.
func (r *Reader) take(n int) []byte {
	if r == nil {
		return nil
	}
	if n < 0 || n > len(r.left) {
		r.left, r.bad = nil, true
		return nil
	}
	b := r.left[:n]
	r.left = r.left[n:]
	return b
}

// Num consumes an integer of size bytes.
func (r *Reader) Num(size int) uint64 {
	if size > most {
		size = -1
	}
	n := uint64(0)
	for _, x := range r.take(size) {
		n = n<<8 | uint64(x)
	}
	return n
}

// Byte consumes an integer of one byte.
func (r *Reader) Byte() byte { return byte(r.Num(1)) }

// Word consumes an integer of two bytes.
func (r *Reader) Word() uint16 { return uint16(r.Num(2)) }

// Long consumes an integer of four bytes.
func (r *Reader) Long() uint32 { return uint32(r.Num(4)) }

// Bytes consumes the next n bytes.
func (r *Reader) Bytes(n int) []byte { return bytes.Clone(r.take(n)) }

// Rest consumes all remaining bytes.
func (r *Reader) Rest() []byte { return r.Bytes(r.Left()) }

// Left returns the number of remaining bytes.
func (r *Reader) Left() int {
	if r == nil {
		return 0
	}
	return len(r.left)
}

// Bad reports whether something was asked for that was not there.
func (r *Reader) Bad() bool { return r == nil || r.bad }
