// Package octet is bytes in the network's order, and their sum: see DOC.md, chapter 1.
package octet

import (
	"slices"

	"wharf/api"
)

// fold adds the carries of a sum to its lowest 16 bits, till none is left.
func fold(n uint64) int {
	for n > 0xffff {
		n = n&0xffff + n>>16
	}
	return int(n)
}

// Part is the sum of bytes as words of two, the carries added.
func Part(p []byte) int {
	var n uint64
	for i := range len(p) / 2 {
		n += uint64(p[2*i])<<8 | uint64(p[2*i+1])
	}
	if len(p)%2 == 1 {
		n += uint64(p[len(p)-1]) << 8
	}
	return fold(n)
}

// Join is the sum of two sums.
func Join(a, b int) int { return fold(uint64(a&0xffff) + uint64(b&0xffff)) }

// Sum is what is written as the sum of bytes.
func Sum(p []byte) int { return 65535 - Part(p) }

// Writer writes numbers.
type Writer struct{ b []byte }

// Byte writes a number's lowest byte.
func (w *Writer) Byte(v int) {
	if w != nil {
		w.b = append(w.b, byte(uint(v)))
	}
}

// Two writes two bytes.
func (w *Writer) Two(v int) {
	if w != nil {
		w.b = append(w.b, byte(uint(v)>>8), byte(uint(v)))
	}
}

// Four writes four bytes.
func (w *Writer) Four(v uint32) {
	if w != nil {
		w.b = append(w.b, byte(v>>24), byte(v>>16), byte(v>>8), byte(v))
	}
}

// Raw writes bytes.
func (w *Writer) Raw(p []byte) {
	if w != nil {
		w.b = append(w.b, p...)
	}
}

// Bytes is what was written.
func (w *Writer) Bytes() []byte {
	if w == nil {
		return nil
	}
	return slices.Clone(w.b)
}

// Reader reads numbers.
type Reader struct {
	next func(n int) (part []byte, left int, err api.Errno)
}

// reading is the one closure that all methods of a Reader go through. It hands out the next n bytes, and keeps the error once there were too few.
func reading(p []byte) func(n int) ([]byte, int, api.Errno) {
	err := api.OK
	return func(n int) ([]byte, int, api.Errno) {
		if err == api.OK && (n < 0 || n > len(p)) {
			p, err = nil, api.ErrShort
		}
		if err != api.OK {
			return nil, 0, err
		}
		part := p[:n]
		p = p[n:]
		return part, len(p), api.OK
	}
}

// NewReader reads from the beginning of bytes.
func NewReader(p []byte) *Reader { return &Reader{next: reading(slices.Clone(p))} }

// take is the closure's answer; a zero Reader gets its closure here.
func (r *Reader) take(n int) ([]byte, int, api.Errno) {
	if r == nil {
		return nil, 0, api.ErrArg
	}
	if r.next == nil {
		r.next = reading(nil)
	}
	return r.next(n)
}

// number is the number that the next n bytes form.
func (r *Reader) number(n int) uint32 {
	part, _, _ := r.take(n)
	var v uint32
	for _, b := range part {
		v = v<<8 | uint32(b)
	}
	return v
}

// Byte reads one byte.
func (r *Reader) Byte() int { return int(r.number(1)) }

// Two reads two bytes.
func (r *Reader) Two() int { return int(r.number(2)) }

// Four reads four bytes.
func (r *Reader) Four() uint32 { return r.number(4) }

// Raw reads bytes.
func (r *Reader) Raw(n int) []byte {
	part, _, _ := r.take(n)
	return slices.Clone(part)
}

// Left is how many there are yet.
func (r *Reader) Left() int {
	_, left, _ := r.take(0)
	return left
}

// Err is OK, till more was read than there is.
func (r *Reader) Err() api.Errno {
	_, _, err := r.take(0)
	return err
}
