// Package wire is layer 1: see shared/doc/01-wire.md.
package wire

import (
	"math"

	"millrace/api"
)

// countSize is how many bytes a string's length, a list's count take.
const countSize = 4

// AppendU8: P1.1.
func AppendU8(b []byte, x uint8) []byte { return appendNumber(b, uint64(x), 1) }

// AppendU16: P1.1.
func AppendU16(b []byte, x uint16) []byte { return appendNumber(b, uint64(x), 2) }

// AppendU32: P1.1.
func AppendU32(b []byte, x uint32) []byte { return appendNumber(b, uint64(x), 4) }

// AppendU64: P1.1.
func AppendU64(b []byte, x uint64) []byte { return appendNumber(b, x, 8) }

// AppendI64: P1.1.
func AppendI64(b []byte, x int64) []byte { return appendNumber(b, uint64(x), 8) }

// AppendF64: P1.1.
func AppendF64(b []byte, x float64) []byte { return appendNumber(b, math.Float64bits(x), 8) }

// AppendString: P1.1.
func AppendString(b, s []byte) ([]byte, api.Errno) {
	if len(s) > api.MaxString {
		return nil, api.ErrLong
	}
	return putString(withRoom(b, countSize+len(s)), s), api.OK
}

// AppendList: P1.1.
func AppendList(b []byte, l ...[]byte) ([]byte, api.Errno) {
	// The whole list is measured ahead of taking room, so that a refusal costs none.
	if len(l) > api.MaxItems {
		return nil, api.ErrLong
	}
	size := countSize
	for _, s := range l {
		if len(s) > api.MaxString {
			return nil, api.ErrLong
		}
		size += countSize + len(s)
	}
	out := putNumber(withRoom(b, size), uint64(len(l)), countSize)
	for _, s := range l {
		out = putString(out, s)
	}
	return out, api.OK
}

// appendNumber puts the size lowest bytes of x behind a copy of b.
func appendNumber(b []byte, x uint64, size int) []byte {
	return putNumber(withRoom(b, size), x, size)
}

// withRoom copies b to memory of its own: the caller's spare room must stay as it is.
func withRoom(b []byte, more int) []byte {
	out := make([]byte, len(b), len(b)+more)
	copy(out, b)
	return out
}

// putNumber and putString write into room that withRoom has made; they are not for the caller's bytes.
func putNumber(out []byte, x uint64, size int) []byte {
	for range size {
		out = append(out, byte(x))
		x >>= 8
	}
	return out
}

func putString(out, s []byte) []byte {
	return append(putNumber(out, uint64(len(s)), countSize), s...)
}

// Reader reads bytes, place by place. It keeps those that are left, and how many are gone.
type Reader struct {
	left []byte
	gone int
	made bool // New made it: a reader of no bytes is there, a zero one is not
}

// New: P1.2.
func New(b []byte) *Reader { return &Reader{left: withRoom(b, 0), made: true} }

// U8: P1.3.
func (r *Reader) U8() (uint8, api.Errno) {
	x, e := r.number(1)
	return uint8(x), e
}

// U16: P1.3.
func (r *Reader) U16() (uint16, api.Errno) {
	x, e := r.number(2)
	return uint16(x), e
}

// U32: P1.3.
func (r *Reader) U32() (uint32, api.Errno) {
	x, e := r.number(4)
	return uint32(x), e
}

// U64: P1.3.
func (r *Reader) U64() (uint64, api.Errno) { return r.number(8) }

// I64: P1.3.
func (r *Reader) I64() (int64, api.Errno) {
	x, e := r.number(8)
	return int64(x), e
}

// F64: P1.3.
func (r *Reader) F64() (float64, api.Errno) {
	x, e := r.number(8)
	return math.Float64frombits(x), e
}

// String: P1.4.
func (r *Reader) String(most int) ([]byte, api.Errno) {
	s, e := r.piece(most)
	if e != api.OK {
		return nil, e
	}
	return withRoom(s, 0), api.OK
}

// List: P1.4.
func (r *Reader) List(items, most int) ([][]byte, api.Errno) {
	if !r.there() {
		return nil, api.ErrNil
	}
	if items < 0 || most < 0 {
		return nil, api.ErrArg
	}
	// A second reader goes ahead over the same bytes: r moves only if all goes well.
	ahead := *r
	count, e := ahead.readCount(items)
	if e != api.OK {
		return nil, e
	}
	// The count may say far more than is there; each string takes a length at least.
	l := make([][]byte, 0, min(count, uint64(len(ahead.left)/countSize)))
	for range count {
		s, e := ahead.piece(most)
		if e != api.OK {
			return nil, e
		}
		l = append(l, s)
	}
	for i, s := range l {
		l[i] = withRoom(s, 0)
	}
	*r = ahead
	return l, api.OK
}

// Skip: P1.3.
func (r *Reader) Skip(n int) api.Errno {
	if !r.there() {
		return api.ErrNil
	}
	if n < 0 {
		return api.ErrArg
	}
	if n > len(r.left) {
		return api.ErrMore
	}
	r.pass(n)
	return api.OK
}

// At: P1.2.
func (r *Reader) At() int {
	if !r.there() {
		return 0
	}
	return r.gone
}

// Left: P1.2.
func (r *Reader) Left() int {
	if !r.there() {
		return 0
	}
	return len(r.left)
}

// Rest: P1.2.
func (r *Reader) Rest() []byte {
	if !r.there() {
		return nil
	}
	return withRoom(r.left, 0)
}

// End: P1.5.
func (r *Reader) End() api.Errno {
	if !r.there() {
		return api.ErrNil
	}
	if len(r.left) > 0 {
		return api.ErrRest
	}
	return api.OK
}

// Copy: P1.5.
func (r *Reader) Copy() *Reader {
	if !r.there() {
		return nil
	}
	return &Reader{left: withRoom(r.left, 0), gone: r.gone, made: true}
}

// there tells a reader that New made from a nil and from a zero one.
func (r *Reader) there() bool { return r != nil && r.made }

// pass goes over n bytes that are known to be there.
func (r *Reader) pass(n int) {
	r.left = r.left[n:]
	r.gone += n
}

// number reads a number of that many bytes.
func (r *Reader) number(size int) (uint64, api.Errno) {
	if !r.there() {
		return 0, api.ErrNil
	}
	if len(r.left) < size {
		return 0, api.ErrMore
	}
	var x uint64
	for i := range size {
		x |= uint64(r.left[i]) << (8 * i)
	}
	r.pass(size)
	return x, api.OK
}

// readCount reads a length or a count that is at most that, which is not below 0.
func (r *Reader) readCount(most int) (uint64, api.Errno) {
	n, e := r.number(countSize)
	if e != api.OK {
		return 0, e
	}
	if n > uint64(most) {
		return 0, api.ErrNever
	}
	return n, api.OK
}

// piece reads a string, as a piece of the reader's own bytes: it must be copied ahead of being answered.
func (r *Reader) piece(most int) ([]byte, api.Errno) {
	if !r.there() {
		return nil, api.ErrNil
	}
	if most < 0 {
		return nil, api.ErrArg
	}
	ahead := *r
	n, e := ahead.readCount(most)
	if e != api.OK {
		return nil, e
	}
	if n > uint64(len(ahead.left)) {
		return nil, api.ErrMore
	}
	s := ahead.left[0:n:n]
	ahead.pass(int(n))
	*r = ahead
	return s, api.OK
}
