package wire_test

import (
	"bytes"
	"strconv"
	"testing"

	"coppice/api"
	"coppice/wire"
)

// The calls have just these types.
var (
	_ func(int) *wire.Writer                 = wire.NewWriter
	_ func(*wire.Writer, uint8)              = wire.Put[uint8]
	_ func(*wire.Writer, uint16)             = wire.Put[uint16]
	_ func(*wire.Writer, uint32)             = wire.Put[uint32]
	_ func(*wire.Writer, uint64)             = wire.Put[uint64]
	_ func(*wire.Writer, []byte)             = (*wire.Writer).Raw
	_ func(*wire.Writer, []byte)             = (*wire.Writer).Short
	_ func(*wire.Writer, int)                = (*wire.Writer).Fill
	_ func(*wire.Writer) int                 = (*wire.Writer).Len
	_ func(*wire.Writer) ([]byte, api.Errno) = (*wire.Writer).Done
	_ func([]byte) *wire.Reader              = wire.NewReader
	_ func(*wire.Reader) uint8               = wire.Get[uint8]
	_ func(*wire.Reader) uint16              = wire.Get[uint16]
	_ func(*wire.Reader) uint32              = wire.Get[uint32]
	_ func(*wire.Reader) uint64              = wire.Get[uint64]
	_ func(*wire.Reader, int) []byte         = (*wire.Reader).Raw
	_ func(*wire.Reader, int) []byte         = (*wire.Reader).Short
	_ func(*wire.Reader)                     = (*wire.Reader).Zeros
	_ func(*wire.Reader) int                 = (*wire.Reader).Left
	_ func(*wire.Reader) api.Errno           = (*wire.Reader).Err
	_ func(*wire.Reader) api.Errno           = (*wire.Reader).End
)

// The ways in which a part is written and read.
const (
	wide8 = iota
	wide16
	wide32
	wide64
	raw
	short
	fill  // of a writer
	zeros // of a reader
	ways
)

// part is what one call writes or reads: a number, or bytes, or how many.
type part struct {
	way int
	num uint64
	b   []byte
	n   int
}

func (p part) String() string {
	names := [...]string{"8 bits", "16 bits", "32 bits", "64 bits", "Raw", "Short", "Fill", "Zeros"}
	return names[p.way] + "(" + strconv.FormatUint(p.num, 16) + ", " + strconv.Itoa(len(p.b)) + " bytes, " + strconv.Itoa(p.n) + ")"
}

// write asks the writer for one part.
func write(w *wire.Writer, p part) {
	switch p.way {
	case wide8:
		wire.Put(w, uint8(p.num))
	case wide16:
		wire.Put(w, uint16(p.num))
	case wide32:
		wire.Put(w, uint32(p.num))
	case wide64:
		wire.Put(w, p.num)
	case raw:
		w.Raw(p.b)
	case short:
		w.Short(p.b)
	case fill:
		w.Fill(p.n)
	}
}

// read asks the reader for one part; only how it is read is taken from p.
func read(r *wire.Reader, p part) (uint64, []byte) {
	switch p.way {
	case wide8:
		return uint64(wire.Get[uint8](r)), nil
	case wide16:
		return uint64(wire.Get[uint16](r)), nil
	case wide32:
		return uint64(wire.Get[uint32](r)), nil
	case wide64:
		return wire.Get[uint64](r), nil
	case raw:
		return 0, r.Raw(p.n)
	case short:
		return 0, r.Short(p.n)
	case zeros:
		r.Zeros()
	}
	return 0, nil
}

// modelWriter follows the chapter's words: it makes a part's bytes first, and
// then looks whether they may be written.
type modelWriter struct {
	most  int
	bytes []byte
	first api.Errno
}

func newModelWriter(most int) *modelWriter {
	if most < 0 {
		most = 0
	}
	if most > 16777216 {
		most = 16777216
	}
	return &modelWriter{most: most}
}

// bytesOf is a number's bytes, the lowest one first.
func bytesOf(x uint64, n int) []byte {
	var b []byte
	for i := range n {
		b = append(b, byte(x>>(8*i)))
	}
	return b
}

func (m *modelWriter) write(p part) {
	if m.first != api.OK {
		return
	}
	var b []byte
	switch p.way {
	case wide8, wide16, wide32, wide64:
		b = bytesOf(p.num, 1<<p.way)
	case raw:
		b = p.b
	case short:
		if len(p.b) > 255 {
			m.first = api.ErrLong
			return
		}
		b = append([]byte{byte(len(p.b))}, p.b...)
	case fill:
		if len(m.bytes) > p.n {
			m.first = api.ErrLong
			return
		}
		if p.n > m.most {
			m.first = api.ErrMany
			return
		}
		b = make([]byte, p.n-len(m.bytes))
	}
	if len(m.bytes)+len(b) > m.most {
		m.first = api.ErrMany
		return
	}
	m.bytes = append(m.bytes, b...)
}

// modelReader follows the chapter's words: all bytes, and a place in them.
type modelReader struct {
	bytes []byte
	place int
	first api.Errno
}

func (m *modelReader) left() int { return len(m.bytes) - m.place }

func (m *modelReader) fail(e api.Errno) (uint64, []byte) {
	m.first = e
	return 0, nil
}

func (m *modelReader) read(p part) (uint64, []byte) {
	if m.first != api.OK {
		return 0, nil
	}
	switch p.way {
	case wide8, wide16, wide32, wide64:
		return m.number(1 << p.way)
	case raw:
		if p.n < 0 {
			return m.fail(api.ErrArg)
		}
		if m.left() < p.n {
			return m.fail(api.ErrShort)
		}
		m.place += p.n
		return 0, m.bytes[m.place-p.n : m.place]
	case short:
		return m.short(p.n)
	case zeros:
		for _, x := range m.bytes[m.place:] {
			if x != 0 {
				return m.fail(api.ErrForm)
			}
		}
		m.place = len(m.bytes)
	}
	return 0, nil
}

func (m *modelReader) number(n int) (uint64, []byte) {
	if m.left() < n {
		return m.fail(api.ErrShort)
	}
	x, times := uint64(0), uint64(1)
	for range n {
		x += uint64(m.bytes[m.place]) * times
		times *= 256
		m.place++
	}
	return x, nil
}

func (m *modelReader) short(most int) (uint64, []byte) {
	if m.left() == 0 {
		return m.fail(api.ErrShort)
	}
	n := int(m.bytes[m.place])
	if n > most {
		return m.fail(api.ErrMany)
	}
	if m.left()-1 < n {
		return m.fail(api.ErrShort)
	}
	m.place += 1 + n
	return 0, m.bytes[m.place-n : m.place]
}

func (m *modelReader) end() api.Errno {
	if m.first == api.OK && m.left() > 0 {
		return api.ErrLong
	}
	return m.first
}

// wrote holds a writer against the bytes and the error that it must have.
func wrote(t *testing.T, what string, w *wire.Writer, all []byte, e api.Errno) {
	t.Helper()
	if w.Len() != len(all) {
		t.Errorf("%s: Len = %d, want %d", what, w.Len(), len(all))
	}
	want := all
	if e != api.OK {
		want = nil
	}
	if b, f := w.Done(); !bytes.Equal(b, want) || f != e {
		t.Errorf("%s: Done = %d bytes %.40x, %d; want %d bytes %.40x, %d", what, len(b), b, f, len(want), want, e)
	}
}

// stands holds a reader against what it must tell of itself, asked in several
// orders, since nothing of it may change the reader.
func stands(t *testing.T, what string, r *wire.Reader, left int, e api.Errno) {
	t.Helper()
	end := e
	if e == api.OK && left > 0 {
		end = api.ErrLong
	}
	for range 2 {
		if n := r.Left(); n != left {
			t.Errorf("%s: Left = %d, want %d", what, n, left)
		}
		if f := r.End(); f != end {
			t.Errorf("%s: End = %d, want %d", what, f, end)
		}
		if f := r.Err(); f != e {
			t.Errorf("%s: Err = %d, want %d", what, f, e)
		}
	}
}

// gave holds what a reader answered against what it must answer.
func gave(t *testing.T, what string, x uint64, b []byte, wantX uint64, wantB []byte) {
	t.Helper()
	if x != wantX || !bytes.Equal(b, wantB) {
		t.Errorf("%s = %x, %x; want %x, %x", what, x, b, wantX, wantB)
	}
}
