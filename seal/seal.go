// Package seal closes the blocks that more than one layer writes, each of another
// form: their last four bytes are the sum of all that stand ahead.
package seal

import (
	"coppice/api"
	"coppice/sum"
	"coppice/wire"
)

// sumAt is where the sum stands: behind all that it is the sum of.
const sumAt = api.BlockSize - 4

// Close is the block of what was written: bytes 0 behind it up to the sum, and the
// sum. What is too long for a block is the writer's error.
func Close(w *wire.Writer) ([]byte, api.Errno) {
	w.Fill(sumAt)
	ahead, _ := w.Done()
	wire.Put(w, sum.Of(ahead))
	return w.Done()
}

// Open is a reader of all that stands ahead of the sum; none and false, if the sum is
// another one, or these are not as many bytes as a block has.
func Open(b []byte) (*wire.Reader, bool) {
	if len(b) != api.BlockSize {
		return nil, false
	}
	told := wire.Get[uint32](wire.NewReader(b[sumAt:]))
	if told != sum.Of(b[:sumAt]) {
		return nil, false
	}
	return wire.NewReader(b[:sumAt]), true
}
