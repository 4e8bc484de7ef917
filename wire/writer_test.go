package wire_test

import (
	"bytes"
	"math"
	"slices"
	"strconv"
	"testing"

	"coppice/api"
	"coppice/draw"
	"coppice/wire"
)

func TestExamplesOfWriters(t *testing.T) {
	w := wire.NewWriter(12)
	wire.Put(w, uint8(7))
	wire.Put(w, uint16(258))
	wire.Put(w, uint32(1))
	if w.Len() != 7 {
		t.Errorf("Len = %d, want 7", w.Len())
	}
	w.Short([]byte("ab"))
	ten := []byte("\x07\x02\x01\x01\x00\x00\x00\x02ab")
	wrote(t, "ten bytes", w, ten, api.OK)
	w.Raw([]byte("abc"))
	wrote(t, "three more", w, ten, api.ErrMany)
	w.Raw([]byte("a"))
	wrote(t, "one more behind the error", w, ten, api.ErrMany)

	v := wire.NewWriter(-1)
	v.Raw(nil)
	wrote(t, "no room, Raw of none", v, nil, api.OK)
	v.Fill(0)
	wrote(t, "no room, Fill(0)", v, nil, api.OK)
	wire.Put(v, uint8(0))
	wrote(t, "no room, a byte", v, nil, api.ErrMany)

	u := wire.NewWriter(4)
	u.Raw([]byte("abc"))
	u.Fill(4)
	wrote(t, "Fill(4)", u, []byte("abc\x00"), api.OK)
	u.Fill(2)
	wrote(t, "Fill(2)", u, []byte("abc\x00"), api.ErrLong)

	long := wire.NewWriter(1000)
	long.Short(make([]byte, 256))
	wrote(t, "Short of 256 bytes", long, nil, api.ErrLong)

	great := wire.NewWriter(1 << 62)
	great.Fill(1 << 40)
	wrote(t, "Fill(2^40)", great, nil, api.ErrMany)
}

// The widths, and which byte comes first.
func TestP2_1Put(t *testing.T) {
	w := wire.NewWriter(100)
	wire.Put(w, uint8(0xA1))
	wrote(t, "uint8", w, []byte{0xA1}, api.OK)
	wire.Put(w, uint16(0xB1B2))
	wrote(t, "uint16", w, []byte{0xA1, 0xB2, 0xB1}, api.OK)
	wire.Put(w, uint32(0xC1C2C3C4))
	wrote(t, "uint32", w, []byte{0xA1, 0xB2, 0xB1, 0xC4, 0xC3, 0xC2, 0xC1}, api.OK)
	wire.Put(w, uint64(0xD1D2D3D4D5D6D7D8))
	wrote(t, "uint64", w, []byte{0xA1, 0xB2, 0xB1, 0xC4, 0xC3, 0xC2, 0xC1, 0xD8, 0xD7, 0xD6, 0xD5, 0xD4, 0xD3, 0xD2, 0xD1}, api.OK)
	for _, way := range []int{wide8, wide16, wide32, wide64} {
		for bit := range 64 {
			for _, x := range []uint64{1 << bit, ^uint64(1 << bit), 1<<bit - 1} {
				v := wire.NewWriter(8)
				p := part{way: way, num: x}
				write(v, p)
				wrote(t, p.String(), v, bytesOf(x, 1<<way), api.OK)
			}
		}
	}
}

// parts are such that need n bytes each, with the bytes that come of them if
// there are already as many as have.
func parts(have int) []struct {
	part part
	want []byte
} {
	r := draw.Numbers(1)
	some, most := r.Bytes(20), r.Bytes(255)
	return []struct {
		part part
		want []byte
	}{
		{part{way: wide8, num: 0x81}, []byte{0x81}},
		{part{way: wide16, num: 0x8182}, []byte{0x82, 0x81}},
		{part{way: wide32, num: 0x81828384}, []byte{0x84, 0x83, 0x82, 0x81}},
		{part{way: wide64, num: 0x8182838485868788}, []byte{0x88, 0x87, 0x86, 0x85, 0x84, 0x83, 0x82, 0x81}},
		{part{way: raw, b: []byte{5}}, []byte{5}},
		{part{way: raw, b: some}, some},
		{part{way: raw, b: bytes.Repeat(most, 4)}, bytes.Repeat(most, 4)},
		{part{way: short}, []byte{0}},
		{part{way: short, b: []byte{}}, []byte{0}},
		{part{way: short, b: []byte{6}}, []byte{1, 6}},
		{part{way: short, b: some}, append([]byte{20}, some...)},
		{part{way: short, b: most}, append([]byte{255}, most...)},
		{part{way: fill, n: have + 1}, []byte{0}},
		{part{way: fill, n: have + 300}, make([]byte, 300)},
	}
}

// Just enough room, and one byte too few, in a new writer and in one that has
// bytes already; behind the error nothing is taken, even if it would fit.
func TestP2_1Room(t *testing.T) {
	for _, have := range []int{0, 1, 7} {
		before := bytes.Repeat([]byte{0xEE}, have)
		for _, x := range parts(have) {
			what := strconv.Itoa(have) + " bytes and " + x.part.String()
			w := wire.NewWriter(have + len(x.want))
			w.Raw(before)
			write(w, x.part)
			wrote(t, what+", just enough room", w, slices.Concat(before, x.want), api.OK)

			w = wire.NewWriter(have + len(x.want) - 1)
			w.Raw(before)
			write(w, x.part)
			wrote(t, what+", a byte too few", w, before, api.ErrMany)
			w.Raw(nil)
			w.Fill(have)
			wrote(t, what+", behind the error", w, before, api.ErrMany)
			w.Short(make([]byte, 256))
			w.Fill(-1)
			wrote(t, what+", other errors behind it", w, before, api.ErrMany)
		}
	}
}

func TestP2_1Most(t *testing.T) {
	for _, most := range []int{0, -1, -2, -16777216, math.MinInt + 1, math.MinInt} {
		for _, x := range parts(0) {
			w := wire.NewWriter(most)
			w.Raw(nil)
			w.Raw([]byte{})
			w.Fill(0)
			wrote(t, "most "+strconv.Itoa(most), w, nil, api.OK)
			write(w, x.part)
			wrote(t, "most "+strconv.Itoa(most)+": "+x.part.String(), w, nil, api.ErrMany)
		}
	}
	const great = 16777216
	if great != api.MaxStream {
		t.Fatal("the limit is another")
	}
	for _, most := range []int{great - 1, great, great + 1, 1 << 25, math.MaxInt - 1, math.MaxInt} {
		room := min(most, great)
		w := wire.NewWriter(most)
		w.Fill(room)
		if b, e := w.Done(); w.Len() != room || len(b) != room || e != api.OK {
			t.Errorf("most %d: Fill(%d): Len = %d, %d bytes, %d", most, room, w.Len(), len(b), e)
		}
		wire.Put(w, uint8(0))
		if b, e := w.Done(); w.Len() != room || len(b) != 0 || e != api.ErrMany {
			t.Errorf("most %d: a byte more: Len = %d, %d bytes, %d", most, w.Len(), len(b), e)
		}
		w = wire.NewWriter(most)
		w.Fill(room + 1)
		wrote(t, "most "+strconv.Itoa(most)+": Fill of one more", w, nil, api.ErrMany)
		w = wire.NewWriter(most)
		w.Raw(make([]byte, room+1))
		wrote(t, "most "+strconv.Itoa(most)+": Raw of one more", w, nil, api.ErrMany)
	}
}

func TestP2_1Short(t *testing.T) {
	r := draw.Numbers(2)
	for _, n := range []int{0, 1, 2, 127, 128, 254, 255} {
		b := r.Bytes(n)
		w := wire.NewWriter(1000)
		w.Raw([]byte{9})
		w.Short(b)
		wrote(t, "Short of "+strconv.Itoa(n), w, slices.Concat([]byte{9, byte(n)}, b), api.OK)
	}
	for _, n := range []int{256, 257, 511, 512, 1000, 65536, 65537, 1 << 24, 1<<24 + 1} {
		for _, most := range []int{0, 1, 256, 257, 1 << 30} {
			w := wire.NewWriter(most)
			w.Short(make([]byte, n))
			wrote(t, "Short of "+strconv.Itoa(n)+" in "+strconv.Itoa(most), w, nil, api.ErrLong)
		}
	}
}

func TestP2_1Fill(t *testing.T) {
	six := []byte("abcdef")
	for _, x := range []struct {
		n    int
		want string
		e    api.Errno
	}{
		{math.MinInt, "abcdef", api.ErrLong},
		{math.MinInt + 1, "abcdef", api.ErrLong},
		{-1, "abcdef", api.ErrLong},
		{0, "abcdef", api.ErrLong},
		{1, "abcdef", api.ErrLong},
		{5, "abcdef", api.ErrLong},
		{6, "abcdef", api.OK},
		{7, "abcdef\x00", api.OK},
		{9, "abcdef\x00\x00\x00", api.OK},
		{10, "abcdef\x00\x00\x00\x00", api.OK},
		{11, "abcdef", api.ErrMany},
		{1 << 24, "abcdef", api.ErrMany},
		{1<<24 + 1, "abcdef", api.ErrMany},
		{1 << 31, "abcdef", api.ErrMany},
		{1 << 62, "abcdef", api.ErrMany},
		{math.MaxInt - 6, "abcdef", api.ErrMany},
		{math.MaxInt - 1, "abcdef", api.ErrMany},
		{math.MaxInt, "abcdef", api.ErrMany},
	} {
		w := wire.NewWriter(10)
		w.Raw(six)
		w.Fill(x.n)
		wrote(t, "Fill("+strconv.Itoa(x.n)+")", w, []byte(x.want), x.e)
	}
	for _, n := range []int{-1, math.MinInt} {
		w := wire.NewWriter(10)
		w.Fill(n)
		wrote(t, "Fill("+strconv.Itoa(n)+") of none", w, nil, api.ErrLong)
	}
	w := wire.NewWriter(math.MaxInt)
	w.Fill(math.MaxInt)
	wrote(t, "Fill(2^63 - 1) with a most of as many", w, nil, api.ErrMany)
}

// Where both errors apply, ErrLong is named first.
func TestP2_1WhichErrorFirst(t *testing.T) {
	w := wire.NewWriter(3)
	w.Short(make([]byte, 256))
	wrote(t, "Short, too long and no room", w, nil, api.ErrLong)
	for _, n := range []int{2, 1, 0, -1} {
		v := wire.NewWriter(3)
		v.Raw([]byte("abc"))
		v.Fill(n)
		wrote(t, "Fill("+strconv.Itoa(n)+") of a full one", v, []byte("abc"), api.ErrLong)
	}
}

// The first error is kept, and nothing is written, whatever comes behind it.
func TestP2_1TheFirstErrorStays(t *testing.T) {
	fits := []part{{way: wide8, num: 1}, {way: wide16}, {way: wide32}, {way: wide64}, {way: raw}, {way: raw, b: []byte{1}}, {way: short}, {way: short, b: []byte{1}}, {way: fill, n: 2}, {way: fill, n: 9}}
	fails := []part{{way: short, b: make([]byte, 300)}, {way: fill, n: 1}, {way: fill, n: -4}, {way: raw, b: make([]byte, 99)}, {way: fill, n: 99}}
	for _, bad := range fails {
		m := newModelWriter(40)
		w := wire.NewWriter(40)
		m.write(part{way: raw, b: []byte("xy")})
		w.Raw([]byte("xy"))
		m.write(bad)
		write(w, bad)
		if m.first == api.OK {
			t.Fatal("no error: " + bad.String())
		}
		for _, p := range slices.Concat(fits, fails, fits) {
			write(w, p)
			wrote(t, bad.String()+" and "+p.String(), w, []byte("xy"), m.first)
		}
	}
}

func TestP2_2DoneAtAnyTime(t *testing.T) {
	w := wire.NewWriter(400)
	m := newModelWriter(400)
	wrote(t, "a new one", w, nil, api.OK)
	r := draw.Numbers(3)
	for range 30 {
		for _, p := range []part{{way: wide8, num: r.Next()}, {way: wide32, num: r.Next()}, {way: raw, b: r.Bytes(3)}, {way: short, b: r.Bytes(4)}, {way: fill, n: len(m.bytes) + 16}} {
			write(w, p)
			m.write(p)
			wrote(t, p.String(), w, m.bytes, m.first)
			wrote(t, p.String()+", asked again", w, m.bytes, m.first)
		}
	}
	if m.first != api.ErrMany {
		t.Fatal("the writer never was full")
	}
}

// Two writers in turns have nothing in common.
func TestP2_5TwoWriters(t *testing.T) {
	a, b := wire.NewWriter(6), wire.NewWriter(60)
	a.Raw([]byte("ab"))
	b.Raw([]byte("xyz"))
	wire.Put(a, uint16(0x0102))
	wire.Put(b, uint16(0x0304))
	wrote(t, "the first", a, []byte("ab\x02\x01"), api.OK)
	wrote(t, "the second", b, []byte("xyz\x04\x03"), api.OK)
	a.Short([]byte("abc"))
	b.Short([]byte("abc"))
	wrote(t, "the first, with an error", a, []byte("ab\x02\x01"), api.ErrMany)
	wrote(t, "the second, without", b, []byte("xyz\x04\x03\x03abc"), api.OK)
	b.Fill(2)
	wrote(t, "the first, with its own error", a, []byte("ab\x02\x01"), api.ErrMany)
	wrote(t, "the second, with another one", b, []byte("xyz\x04\x03\x03abc"), api.ErrLong)
}

func TestWritersFollowTheWords(t *testing.T) {
	r := draw.Numbers(4)
	for range 4000 {
		most := r.Below(70) - 3
		w, m := wire.NewWriter(most), newModelWriter(most)
		for range 12 {
			p := part{way: r.Below(fill + 1), num: r.Next(), n: r.Below(40) - 2}
			p.b = r.Bytes(r.Below(9))
			if r.Below(40) == 0 {
				p.b = r.Bytes(250 + r.Below(9))
			}
			write(w, p)
			m.write(p)
			wrote(t, "most "+strconv.Itoa(most)+", "+p.String(), w, m.bytes, m.first)
		}
		if t.Failed() {
			return
		}
	}
}

// What is handed in is not changed, its spare room included, and not kept.
func TestP2_6WhatAWriterIsHanded(t *testing.T) {
	r := draw.Numbers(5)
	room := r.Bytes(40)
	before := slices.Clone(room)
	b := room[10:20]
	for _, shortOne := range []bool{false, true} {
		w := wire.NewWriter(100)
		want := before[10:20]
		if shortOne {
			w.Short(b)
			want = append([]byte{10}, want...)
		} else {
			w.Raw(b)
		}
		w.Fill(30)
		wire.Put(w, uint64(math.MaxUint64))
		if !bytes.Equal(room, before) {
			t.Fatal("what was handed in, or what lies around it, has changed")
		}
		for i := range room {
			room[i] = 0xAA
		}
		want = append(slices.Clone(want), make([]byte, 30-len(want))...)
		wrote(t, "what was handed in has changed since", w, append(want, bytes.Repeat([]byte{255}, 8)...), api.OK)
		copy(room, before)
	}
}

// What Done answers is new each time, its spare room included.
func TestP2_6WhatDoneAnswers(t *testing.T) {
	w := wire.NewWriter(1000)
	var want []byte
	var answers [][]byte
	for i := range 100 {
		wire.Put(w, uint8(i))
		want = append(want, byte(i))
		b, _ := w.Done()
		c, _ := w.Done()
		for _, x := range [][]byte{b, c} {
			for j := range x[:cap(x)] {
				x[:cap(x)][j] = 0xAA
			}
		}
		answers = append(answers, b, c)
		wrote(t, "the answer was written over", w, want, api.OK)
	}
	w.Raw([]byte("more"))
	for _, x := range answers {
		for j := range x[:cap(x)] {
			if x[:cap(x)][j] != 0xAA {
				t.Fatal("an answer has changed behind the call")
			}
		}
	}
}
