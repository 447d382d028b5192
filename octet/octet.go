// Package octet is layer 2: bytes, and sums of them. See shared/doc/02-octet.md.
package octet

import (
	"dumbwaiter/api"
)

const (
	mostNum   = 8 // bytes of the widest number
	lenBytes  = 4 // bytes that tell a length or a count
	sumBytes  = 4 // bytes of a sum
	flagBytes = 1
)

// Writer lays bytes, one behind the other. Its zero value is one.
type Writer struct {
	laid []byte
}

// lay is nil's guard for all that lays: a nil writer stays nil.
func (w *Writer) lay(b ...byte) *Writer {
	if w != nil {
		w.laid = append(w.laid, b...)
	}
	return w
}

// Num: a number of so many bytes, the lowest first.
func (w *Writer) Num(n uint64, bytes int) *Writer {
	for range min(bytes, mostNum) { // above eight nothing is promised; to stop there keeps every call short
		w.lay(byte(n))
		n >>= 8
	}
	return w
}

// Bytes: how many, in four bytes, and they.
func (w *Writer) Bytes(p []byte) *Writer {
	return w.Num(uint64(len(p)), lenBytes).lay(p...)
}

// Flag: a truth, in one byte.
func (w *Writer) Flag(b bool) *Writer {
	if b {
		return w.Num(1, flagBytes)
	}
	return w.Num(0, flagBytes)
}

// Done: all that was laid.
func (w *Writer) Done() []byte {
	if w == nil {
		return nil
	}
	return own(w.laid)
}

// own: the bytes as an answer: new memory, so that a caller may write there, and without room behind, so that it can't grow into anything.
func own(p []byte) []byte {
	c := append([]byte(nil), p...)
	return c[:len(c):len(c)]
}

// Reader takes bytes, one behind the other; behind the first fault all is 0.
type Reader struct {
	left []byte // none behind a fault
	bad  bool
}

// Read: a reader of some bytes.
func Read(p []byte) *Reader { return &Reader{left: p} }

func (r *Reader) fail() {
	if r != nil {
		r.left, r.bad = nil, true
	}
}

// take: the next n bytes, as they stand in what is read; none, and a fault, if there aren't as many.
func (r *Reader) take(n int) []byte {
	if n < 0 || n > r.Left() {
		r.fail()
		return nil
	}
	if r.Bad() {
		return nil
	}
	p := r.left[:n:n]
	r.left = r.left[n:]
	return p
}

// Num: the next number, of so many bytes.
func (r *Reader) Num(bytes int) uint64 {
	n := uint64(0)
	for i, b := range r.take(bytes) {
		n |= uint64(b) << (8 * i)
	}
	return n
}

// Bytes: the next bytes, at most so many.
func (r *Reader) Bytes(most int) []byte {
	return own(r.take(r.Count(most)))
}

// Flag: the next truth; a fault, if it is neither 0 nor 1.
func (r *Reader) Flag() bool {
	n := r.Num(flagBytes)
	if n > 1 {
		r.fail()
	}
	return n == 1
}

// Count: the next number, of four bytes; a fault, if it is above most.
func (r *Reader) Count(most int) int {
	n := r.Num(lenBytes)
	if most < 0 || n > uint64(most) {
		r.fail()
		return 0
	}
	return int(n)
}

// Bad: was there a fault?
func (r *Reader) Bad() bool { return r == nil || r.bad }

// End: was there no fault, and is nothing left?
func (r *Reader) End() bool { return !r.Bad() && r.Left() == 0 }

// Left: how many bytes are left.
func (r *Reader) Left() int {
	if r == nil {
		return 0
	}
	return len(r.left)
}

// sumSteps: what four bits add to a sum. (Of eight bits at once the table would be too long for a package.)
var sumSteps = [16]uint32{
	0x00000000, 0x1db71064, 0x3b6e20c8, 0x26d930ac, 0x76dc4190, 0x6b6b51f4, 0x4db26158, 0x5005713c,
	0xedb88320, 0xf00f9344, 0xd6d6a3e8, 0xcb61b38c, 0x9b64c2b0, 0x86d3d2d4, 0xa00ae278, 0xbdbdf21c,
}

// Sum: CRC-32.
func Sum(p []byte) uint32 {
	s := ^uint32(0)
	for _, b := range p {
		s ^= uint32(b)
		s = s>>4 ^ sumSteps[s&15]
		s = s>>4 ^ sumSteps[s&15]
	}
	return ^s
}

// Seal: bytes with their sum behind them.
func Seal(p []byte) []byte {
	w := &Writer{}
	return w.lay(p...).Num(uint64(Sum(p)), sumBytes).Done()
}

// Open: the bytes of sealed ones. ErrForm: fewer than four; else ErrSum: the last four aren't the sum of the others.
func Open(p []byte) ([]byte, api.Errno) {
	n := len(p) - sumBytes
	if n < 0 {
		return nil, api.ErrForm
	}
	if Read(p[n:]).Num(sumBytes) != uint64(Sum(p[:n])) {
		return nil, api.ErrSum
	}
	return own(p[:n]), api.OK
}
