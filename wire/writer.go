package wire

import (
	"slices"

	"coppice/api"
)

// mostShort is the greatest number that fits the byte ahead of a short part.
const mostShort = 255

// Writer lays numbers and bytes one behind the other.
type Writer struct {
	most  int
	bytes []byte
	first api.Errno // OK till something could not be written
}

// NewWriter is a writer of at most so many bytes.
func NewWriter(most int) *Writer {
	return &Writer{most: min(max(most, 0), api.MaxStream)}
}

// Put writes a number, its lowest byte first.
func Put[T Unsigned](w *Writer, x T) {
	if !w.takes(width[T]()) {
		return
	}
	rest := uint64(x)
	for range width[T]() {
		w.bytes = append(w.bytes, byte(rest))
		rest >>= 8
	}
}

// Raw writes bytes as they are.
func (w *Writer) Raw(b []byte) {
	if w.takes(len(b)) {
		w.bytes = append(w.bytes, b...)
	}
}

// Short writes at most 255 bytes behind how many they are.
func (w *Writer) Short(b []byte) {
	if len(b) > mostShort {
		w.fail(api.ErrLong)
		return
	}
	if w.takes(1 + len(b)) {
		w.bytes = append(w.bytes, byte(len(b)))
		w.bytes = append(w.bytes, b...)
	}
}

// Fill writes bytes 0 until there are n bytes in all.
func (w *Writer) Fill(n int) {
	if n < len(w.bytes) {
		w.fail(api.ErrLong)
		return
	}
	more := n - len(w.bytes)
	if w.takes(more) {
		w.bytes = append(w.bytes, make([]byte, more)...)
	}
}

// Len is how many bytes there are.
func (w *Writer) Len() int { return len(w.bytes) }

// Done is all that was written.
func (w *Writer) Done() ([]byte, api.Errno) {
	if w.first != api.OK {
		return nil, w.first
	}
	return slices.Clone(w.bytes), api.OK
}

// takes says whether n bytes more may be written; where there is no room for
// them, that is the writer's error.
func (w *Writer) takes(n int) bool {
	if n > w.most-len(w.bytes) {
		w.fail(api.ErrMany)
	}
	return w.first == api.OK
}

// fail keeps an error, unless there was one before it.
func (w *Writer) fail(e api.Errno) {
	if w.first == api.OK {
		w.first = e
	}
}
