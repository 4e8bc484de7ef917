package wire

import (
	"slices"

	"coppice/api"
)

// Reader reads what a writer wrote; behind its first error it reads nothing more.
type Reader struct {
	left  []byte    // what is not read yet
	first api.Errno // OK till something could not be read
}

// NewReader is a reader at the first of these bytes.
func NewReader(b []byte) *Reader { return &Reader{left: slices.Clone(b)} }

// Get reads a number.
func Get[T Unsigned](r *Reader) (x T) {
	defer func() {
		if e := recover(); e != nil {
			r.stop(e)
		}
	}()
	var all uint64
	for i, b := range r.ahead(width[T]()) {
		all |= uint64(b) << (8 * i)
	}
	r.pass(width[T]())
	return T(all)
}

// Raw reads n bytes.
func (r *Reader) Raw(n int) (b []byte) {
	defer func() {
		if e := recover(); e != nil {
			r.stop(e)
		}
	}()
	b = slices.Clone(r.ahead(n))
	r.pass(n)
	return b
}

// Short reads what Short wrote, at most so many bytes.
func (r *Reader) Short(most int) (b []byte) {
	defer func() {
		if e := recover(); e != nil {
			r.stop(e)
		}
	}()
	n := int(r.ahead(1)[0])
	if n > most {
		panic(api.ErrMany)
	}
	b = slices.Clone(r.ahead(1 + n)[1:])
	r.pass(1 + n)
	return b
}

// Zeros reads all that is left, which must be bytes 0.
func (r *Reader) Zeros() {
	defer func() {
		if e := recover(); e != nil {
			r.stop(e)
		}
	}()
	for _, b := range r.ahead(len(r.left)) {
		if b != 0 {
			panic(api.ErrForm)
		}
	}
	r.pass(len(r.left))
}

// Left is how many bytes are left.
func (r *Reader) Left() int { return len(r.left) }

// Err is the first error.
func (r *Reader) Err() api.Errno { return r.first }

// End is the first error, or ErrLong where bytes are left.
func (r *Reader) End() api.Errno {
	if r.first == api.OK && len(r.left) > 0 {
		return api.ErrLong
	}
	return r.first
}

// ahead is the next n bytes. They stay unread till they are passed, so that a
// call that gives up behind them has read nothing. The first error stands ahead
// of all others: behind it each call gives up with it again.
func (r *Reader) ahead(n int) []byte {
	switch {
	case r.first != api.OK:
		panic(r.first)
	case n < 0:
		panic(api.ErrArg)
	case n > len(r.left):
		panic(api.ErrShort)
	}
	return r.left[:n]
}

// pass goes on behind n bytes that were looked at.
func (r *Reader) pass(n int) { r.left = r.left[n:] }

// stop keeps the error with which a call gave up. Anything else that was caught
// would be a fault of this package: the assertion does not hide it.
func (r *Reader) stop(e any) { r.first = e.(api.Errno) }
