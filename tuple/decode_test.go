package tuple_test

import (
	"bytes"
	"encoding/binary"
	"math"
	"testing"

	"coppice/api"
	"coppice/draw"
	"coppice/tuple"
)

// asModel holds Decode of any bytes against the model, and what it takes against
// Encode.
func asModel(t *testing.T, b []byte) {
	t.Helper()
	l, e := tuple.Decode(b)
	want, f := modelDecode(b)
	if e != f || !equalLists(l, want) {
		t.Fatalf("Decode(%.60x) = %v, %d; want %v, %d", b, l, e, want, f)
	}
	if e != api.OK {
		return
	}
	if c, e := tuple.Encode(l); e != api.OK || !bytes.Equal(c, b) {
		t.Fatalf("Encode(Decode(%.60x)) = %.60x, %d", b, c, e)
	}
}

// begins are the first bytes of the chapter's table, and how many bytes a value
// has behind each; a text has as many as one likes.
func begins() map[byte]int {
	m := map[byte]int{0x01: 0, 0x02: 0, 0x03: 0, 0x30: 8, 0x38: 16, 0x40: 1}
	for n := range 9 {
		m[0x20+byte(n)] = n
		m[0x1f-byte(n)] = n
	}
	return m
}

func TestP3_4FirstBytes(t *testing.T) {
	known := begins()
	for x := range 256 {
		first := byte(x)
		n, ok := known[first]
		switch {
		case !ok:
			unread(t, []byte{first}, api.ErrForm)
			unread(t, append([]byte{first}, make([]byte, 20)...), api.ErrForm)
			unread(t, []byte{1, first}, api.ErrForm)
		case n == 0:
			asModel(t, []byte{first})
		default:
			unread(t, []byte{first}, api.ErrShort)
			unread(t, []byte{3, first}, api.ErrShort)
			asModel(t, append([]byte{first}, make([]byte, 20)...))
		}
	}
	if len(known) != 6+18 {
		t.Errorf("%d first bytes", len(known))
	}
}

func TestP3_4OneByteTooFew(t *testing.T) {
	for _, v := range risingValues() {
		b := modelBytes(v)
		decoded(t, b, list(v))
		if len(b) == 1 {
			continue
		}
		unread(t, b[:len(b)-1], api.ErrShort)
		unread(t, append([]byte{1, 0x21, 5}, b[:len(b)-1]...), api.ErrShort)
		for n := 1; n < len(b) && v.Kind != api.TextValue; n++ {
			unread(t, b[:n], api.ErrShort)
		}
	}
}

// A value that ends too early is short, whatever else is wrong with it.
func TestP3_4ShortStandsAheadOfForm(t *testing.T) {
	unread(t, row("22 00"), api.ErrShort)
	unread(t, row("1d ff"), api.ErrShort)
	unread(t, row("28 ff ff ff ff ff ff ff"), api.ErrShort)
	unread(t, row("17 00 00 00 00 00 00 00"), api.ErrShort)
	unread(t, row("38 ff f8 00 00 00 00 00 00 80"), api.ErrShort)
	unread(t, row("30 ff ff ff ff ff ff ff"), api.ErrShort)
}

// The first fault is told, not one behind it.
func TestP3_4TheFirstFault(t *testing.T) {
	unread(t, row("21 00 04"), api.ErrForm)
	unread(t, row("21 00 22 01"), api.ErrForm)
	unread(t, row("04 22 01"), api.ErrForm)
	unread(t, row("01 40 61 00 22 01"), api.ErrShort)
	unread(t, row("22 01 04 04"), api.ErrForm)
}

func TestP3_4IntsInMoreBytesThanTheyNeed(t *testing.T) {
	for _, x := range risingInts() {
		b := modelBytes(whole(x))
		for n := len(b); n <= 8; n++ { // n bytes behind the first one
			c, sign := []byte{0x20 + byte(n)}, byte(0)
			if x < 0 {
				c, sign = []byte{0x1f - byte(n)}, 0xff
			}
			c = append(c, bytes.Repeat([]byte{sign}, n-len(b)+1)...)
			unread(t, append(c, b[1:]...), api.ErrForm)
		}
	}
}

func TestP3_4IntsBeyond64Bits(t *testing.T) {
	for _, x := range []uint64{1 << 63, 1<<63 + 1, 1<<63 | 1<<56, math.MaxUint64 - 1, math.MaxUint64} {
		unread(t, binary.BigEndian.AppendUint64([]byte{0x28}, x), api.ErrForm)
		unread(t, binary.BigEndian.AppendUint64([]byte{0x17}, ^x), api.ErrForm)
	}
	decoded(t, row("28 7f ff ff ff ff ff ff ff"), list(whole(math.MaxInt64)))
	decoded(t, row("17 80 00 00 00 00 00 00 00"), list(whole(math.MinInt64)))
	unread(t, row("29 01 00 00 00 00 00 00 00 00"), api.ErrForm)
	unread(t, row("16 fe ff ff ff ff ff ff ff ff"), api.ErrForm)
}

func TestP3_4NaNs(t *testing.T) {
	// written is a real's bytes by its bits alone, whatever NaN it is
	written := func(bits uint64) []byte {
		if bits>>63 == 1 {
			return binary.BigEndian.AppendUint64(nil, ^bits)
		}
		return binary.BigEndian.AppendUint64(nil, bits|1<<63)
	}
	one := written(0x3ff0000000000000)
	for _, bits := range otherNaNs {
		nan := written(bits)
		unread(t, bytes.Join([][]byte{{0x30}, nan}, nil), api.ErrForm)
		unread(t, bytes.Join([][]byte{{0x38}, nan, one}, nil), api.ErrForm)
		unread(t, bytes.Join([][]byte{{0x38}, one, nan}, nil), api.ErrForm)
		unread(t, bytes.Join([][]byte{{0x38}, nan, nan}, nil), api.ErrForm)
	}
	nan := written(theNaN)
	decoded(t, bytes.Join([][]byte{{0x30}, nan}, nil), list(number(fromBits(theNaN))))
	decoded(t, bytes.Join([][]byte{{0x38}, nan, one, {0x38}, one, nan}, nil), list(point(fromBits(theNaN), 1), point(1, fromBits(theNaN))))
	decoded(t, row("30 ff f0 00 00 00 00 00 00 30 00 0f ff ff ff ff ff ff"), list(number(math.Inf(1)), number(math.Inf(-1))))
	unread(t, row("30 00 00 00 00 00 00 00 00"), api.ErrForm)
}

func TestP3_4Texts(t *testing.T) {
	for _, s := range []string{"40", "40 61", "40 00 ff", "40 61 00 ff", "40 61 00 ff 62", "40 00 ff 00 ff", "40 ff", "02 40 61", "40 00 40"} {
		unread(t, row(s), api.ErrShort)
	}
	decoded(t, row("40 00"), list(text("")))
	decoded(t, row("40 ff 00"), list(text("\xff")))
	decoded(t, row("40 00 ff 00"), list(text("\x00")))
	decoded(t, row("40 00 ff ff 00"), list(text("\x00\xff")))
	decoded(t, row("40 00 ff 00 ff 00"), list(text("\x00\x00")))
	decoded(t, row("40 00 40 00"), list(text(""), text("")))
	decoded(t, row("40 ff 00 01"), list(text("\xff"), none()))
	decoded(t, row("40 c3 28 00"), list(text("\xc3\x28"))) // no runes
	unread(t, row("40 00 00"), api.ErrForm)                // behind the end: no value begins so
	unread(t, row("40 61 00 fe"), api.ErrForm)
}

func TestP3_4Limit(t *testing.T) {
	nils := bytes.Repeat([]byte{1}, 4096)
	decoded(t, nils, make([]api.Value, 4096))
	unread(t, append(nils, 1), api.ErrMany)
	unread(t, append(nils, 0), api.ErrMany)
	long := modelBytes(repeated('a', 4094))
	decoded(t, long, list(repeated('a', 4094)))
	unread(t, modelBytes(repeated('a', 4095)), api.ErrMany)
	unread(t, long[:4095], api.ErrShort)
	zeros := modelBytes(repeated(0, 2047))
	decoded(t, zeros, list(repeated(0, 2047)))
	unread(t, make([]byte, 4096), api.ErrForm)
	unread(t, make([]byte, 4097), api.ErrMany) // above the limit stands ahead of the form
	unread(t, bytes.Repeat([]byte{0x40}, 4096), api.ErrShort)
	unread(t, bytes.Repeat([]byte{0x40}, 1<<20), api.ErrMany)
}

func TestP3_6AllShortRows(t *testing.T) {
	asModel(t, nil)
	asModel(t, []byte{})
	for x := range 256 {
		asModel(t, []byte{byte(x)})
		for y := range 256 {
			asModel(t, []byte{byte(x), byte(y)})
		}
	}
	some := []byte{0, 1, 2, 3, 4, 0x1c, 0x1d, 0x1e, 0x1f, 0x20, 0x21, 0x22, 0x23, 0x30, 0x38, 0x40, 0x7f, 0x80, 0xfe, 0xff}
	for _, a := range some {
		for _, b := range some {
			for _, c := range some {
				for _, d := range some {
					asModel(t, []byte{a, b, c, d})
				}
			}
		}
	}
}

func TestP3_6IntsOfAllWidths(t *testing.T) {
	some := []byte{0, 1, 0x7f, 0x80, 0xfe, 0xff}
	r := draw.Numbers(34)
	for first := 0x15; first <= 0x2a; first++ {
		for n := range 11 {
			for _, high := range some {
				b := append([]byte{byte(first), high}, make([]byte, n)...)
				for i := range n {
					b[2+i] = some[r.Below(len(some))]
				}
				asModel(t, b)
				asModel(t, b[:len(b)-1])
			}
		}
	}
}

// Bytes of tuples with something done to them: most of them are no tuple's bytes.
func TestP3_6SpoiltRows(t *testing.T) {
	r := draw.Numbers(40)
	for range 30000 {
		b := modelAll(someTuple(&r, 4))
		asModel(t, b)
		if len(b) == 0 {
			continue
		}
		i := r.Below(len(b))
		asModel(t, b[:i])
		asModel(t, b[i:])
		other := bytes.Clone(b)
		other[i] = []byte{0, 1, 0xff, 0x40, 0x20, byte(r.Next()), other[i] ^ 1<<r.Below(8)}[r.Below(7)]
		asModel(t, other)
		asModel(t, append(bytes.Clone(b[:i]), b[min(i+1, len(b)):]...))
	}
}
