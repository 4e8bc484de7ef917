package seal_test

import (
	"bytes"
	"encoding/binary"
	"hash/crc32"
	"slices"
	"testing"

	"coppice/api"
	"coppice/draw"
	"coppice/seal"
	"coppice/wire"
)

// sealed is the block that these bytes begin, by the library's own CRC-32C.
func sealed(b []byte) []byte {
	b = append(slices.Clone(b), make([]byte, 508-len(b))...)
	return binary.LittleEndian.AppendUint32(b, crc32.Checksum(b, crc32.MakeTable(crc32.Castagnoli)))
}

func TestCloseAndOpen(t *testing.T) {
	r := draw.Numbers(81)
	for n := range 509 {
		said := r.Bytes(n)
		w := wire.NewWriter(512)
		w.Raw(said)
		b, e := seal.Close(w)
		if e != api.OK || !bytes.Equal(b, sealed(said)) {
			t.Fatalf("of %d bytes: %x, %d", n, b, e)
		}
		got, ok := seal.Open(b)
		if !ok || got.Left() != 508 || !bytes.Equal(got.Raw(n), said) {
			t.Fatalf("of %d bytes: Open is %v, or says something else", n, ok)
		}
		if got.Zeros(); got.End() != api.OK {
			t.Fatalf("of %d bytes: bytes that are not 0 behind them", n)
		}
	}
}

func TestCloseOfTooMuch(t *testing.T) {
	for _, c := range []struct {
		most, n int
		want    api.Errno
	}{{512, 509, api.ErrLong}, {512, 512, api.ErrLong}, {512, 513, api.ErrMany}, {511, 8, api.ErrMany}, {508, 508, api.ErrMany}, {507, 0, api.ErrMany}} {
		w := wire.NewWriter(c.most)
		w.Raw(make([]byte, c.n))
		if b, e := seal.Close(w); e != c.want || len(b) != 0 {
			t.Errorf("of %d bytes of at most %d: %d bytes, %d; want %d", c.n, c.most, len(b), e, c.want)
		}
	}
}

func TestOpenRefuses(t *testing.T) {
	b := sealed([]byte("what a block says"))
	for at := range b {
		for _, turn := range []byte{1, 16, 128, 255} {
			c := slices.Clone(b)
			c[at] ^= turn
			if r, ok := seal.Open(c); ok || r != nil {
				t.Fatalf("with another byte at %d it is opened", at)
			}
		}
	}
	for _, c := range [][]byte{nil, {}, b[:511], b[:508], b[:4], append(slices.Clone(b), 0), make([]byte, 512), make([]byte, 1024)} {
		if r, ok := seal.Open(c); ok || r != nil {
			t.Errorf("%d bytes are opened", len(c))
		}
	}
}

func TestOpenKeepsNothing(t *testing.T) {
	b := sealed([]byte{1, 2, 3})
	r, _ := seal.Open(b)
	clear(b)
	if got := r.Raw(3); !bytes.Equal(got, []byte{1, 2, 3}) {
		t.Errorf("the reader shares memory with the block: %v", got)
	}
}
