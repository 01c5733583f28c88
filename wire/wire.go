// Package wire is layer 1: see shared/doc/01-wire.md.
package wire

import (
	"bytes"
	"math"
	"slices"

	"oriel/api"
)

const (
	groupBits = 7
	more      = 1 << groupBits // what each byte of a number but its last has more
	mostNum   = 10             // bytes of a number below 2^64
	mostFixed = 8              // bytes of a fixed number
)

// Num is a number's form.
func Num(n uint64) []byte {
	// The last group is the first at hand: the form is put down backwards.
	form := []byte{byte(n % more)}
	for n >>= groupBits; n > 0; n >>= groupBits {
		form = append(form, byte(n%more)+more)
	}
	slices.Reverse(form)
	return form
}

// Fixed is a fixed number's form; none, if size is not 1 to 8.
func Fixed(n uint64, size int) []byte {
	if !isFixed(size) {
		return nil
	}
	form := make([]byte, size)
	for i := range size {
		form[size-1-i] = byte(n >> (8 * i))
	}
	return form
}

// Text is a text's form.
func Text(s []byte) []byte {
	return append(Num(uint64(len(s))), s...)
}

func isFixed(size int) bool {
	return 1 <= size && size <= mostFixed
}

// Reader goes over bytes. The zero Reader is one over no bytes.
type Reader struct {
	left []byte // never written to: readers that are copied may share it
	err  api.Errno
}

// Open is a reader at the beginning of a copy of b.
func Open(b []byte) *Reader {
	return &Reader{left: bytes.Clone(b)}
}

// Num is the next number.
func (r *Reader) Num() uint64 {
	return pass(r, mostNum, r.number)
}

// Fixed is the next fixed number of so many bytes.
func (r *Reader) Fixed(size int) uint64 {
	return pass(r, size, r.fixed)
}

// Text is the next text, of at most so many bytes.
func (r *Reader) Text(most int) []byte {
	return pass(r, max(most, 0), r.text)
}

// Rest is all that is left.
func (r *Reader) Rest() []byte {
	return pass(r, r.Left(), r.cut)
}

// Left is how many bytes are left.
func (r *Reader) Left() int {
	if r == nil {
		return 0
	}
	return len(r.left)
}

// Err is the error that the reader has.
func (r *Reader) Err() api.Errno {
	if r == nil {
		return api.OK
	}
	return r.err
}

// End is the error that the reader has; else ErrBytes, if bytes are left.
func (r *Reader) End() api.Errno {
	if err := r.Err(); err != api.OK {
		return err
	}
	if r.Left() > 0 {
		return api.ErrBytes
	}
	return api.OK
}

// pass goes one of r's steps, with the step's bound. It alone minds errors, so
// that a step may stop midway: where a step fails, all that it passed stands
// again.
func pass[T any](r *Reader, bound int, step func(bound int) (T, api.Errno)) T {
	var none T
	if r == nil || r.err != api.OK {
		return none
	}
	ahead := r.left
	got, err := step(bound)
	if err != api.OK {
		r.left, r.err = ahead, err
		return none
	}
	return got
}

// number is the step over a number of at most so many bytes.
func (r *Reader) number(most int) (uint64, api.Errno) {
	// A form has no group of nought ahead of its others.
	if len(r.left) > 0 && r.left[0] == more {
		return 0, api.ErrBytes
	}
	var n uint64
	for i := range min(most, len(r.left)) {
		if n > math.MaxUint64>>groupBits {
			return 0, api.ErrBytes
		}
		b := r.left[i]
		n = n<<groupBits | uint64(b%more)
		if b < more {
			r.left = r.left[i+1:]
			return n, api.OK
		}
	}
	return 0, api.ErrBytes
}

// fixed is the step over a fixed number of so many bytes.
func (r *Reader) fixed(size int) (uint64, api.Errno) {
	if !isFixed(size) {
		return 0, api.ErrBytes
	}
	form, err := r.cut(size)
	var n uint64
	for _, b := range form {
		n = n<<8 | uint64(b)
	}
	return n, err
}

// text is the step over a text of at most so many bytes.
func (r *Reader) text(most int) ([]byte, api.Errno) {
	size, err := r.number(mostNum)
	if err != api.OK {
		return nil, err
	}
	// Ahead of cutting: a text that is too long is so, there or not.
	if size > uint64(most) {
		return nil, api.ErrLong
	}
	return r.cut(int(size))
}

// cut is the step over so many bytes, at least 0, and tells a copy of them.
func (r *Reader) cut(size int) ([]byte, api.Errno) {
	if size > len(r.left) {
		return nil, api.ErrBytes
	}
	got := bytes.Clone(r.left[:size])
	r.left = r.left[size:]
	return got, api.OK
}
