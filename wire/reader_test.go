package wire_test

import (
	"bytes"
	"math"
	"slices"
	"strconv"
	"sync"
	"testing"

	"coppice/api"
	"coppice/draw"
	"coppice/wire"
)

func TestExamplesOfReaders(t *testing.T) {
	in := []byte("\x07\x02\x01\x02ab\x00\x00")
	r := wire.NewReader(in)
	gave(t, "uint8", uint64(wire.Get[uint8](r)), nil, 7, nil)
	gave(t, "uint16", uint64(wire.Get[uint16](r)), nil, 258, nil)
	stands(t, "behind two numbers", r, 5, api.OK)
	gave(t, "Short(1)", 0, r.Short(1), 0, nil)
	stands(t, "Short(1)", r, 5, api.ErrMany)
	gave(t, "Raw(1)", 0, r.Raw(1), 0, nil)
	r.Zeros()
	stands(t, "behind the error", r, 5, api.ErrMany)

	r = wire.NewReader(in)
	gave(t, "uint8", uint64(wire.Get[uint8](r)), nil, 7, nil)
	gave(t, "uint16", uint64(wire.Get[uint16](r)), nil, 258, nil)
	gave(t, "Short(2)", 0, r.Short(2), 0, []byte("ab"))
	stands(t, "Short(2)", r, 2, api.OK)
	r.Zeros()
	stands(t, "Zeros", r, 0, api.OK)

	r = wire.NewReader([]byte{1})
	gave(t, "uint16", uint64(wire.Get[uint16](r)), nil, 0, nil)
	stands(t, "uint16 of one byte", r, 1, api.ErrShort)
	gave(t, "uint8", uint64(wire.Get[uint8](r)), nil, 0, nil)

	r = wire.NewReader([]byte{1})
	gave(t, "Raw(-1)", 0, r.Raw(-1), 0, nil)
	stands(t, "Raw(-1)", r, 1, api.ErrArg)

	r = wire.NewReader([]byte("\x03ab"))
	gave(t, "Short(9)", 0, r.Short(9), 0, nil)
	stands(t, "Short(9)", r, 3, api.ErrShort)

	r = wire.NewReader(nil)
	stands(t, "no bytes", r, 0, api.OK)
	gave(t, "Raw(0)", 0, r.Raw(0), 0, nil)
	r.Zeros()
	stands(t, "no bytes, Zeros", r, 0, api.OK)
}

func TestP2_3Get(t *testing.T) {
	all := []byte{0xA1, 0xB2, 0xB1, 0xC4, 0xC3, 0xC2, 0xC1, 0xD8, 0xD7, 0xD6, 0xD5, 0xD4, 0xD3, 0xD2, 0xD1}
	r := wire.NewReader(all)
	if x := wire.Get[uint8](r); x != 0xA1 {
		t.Errorf("uint8: %x", x)
	}
	if x := wire.Get[uint16](r); x != 0xB1B2 {
		t.Errorf("uint16: %x", x)
	}
	if x := wire.Get[uint32](r); x != 0xC1C2C3C4 {
		t.Errorf("uint32: %x", x)
	}
	if x := wire.Get[uint64](r); x != 0xD1D2D3D4D5D6D7D8 {
		t.Errorf("uint64: %x", x)
	}
	stands(t, "four numbers", r, 0, api.OK)
	for way := range 4 {
		for at := range 1 << way {
			b := make([]byte, 1<<way)
			b[at] = 0x81
			x, _ := read(wire.NewReader(b), part{way: way})
			gave(t, strconv.Itoa(8<<way)+" bits", x, nil, 0x81<<(8*at), nil)
		}
	}
}

// reads are such that need just so many bytes of those that are handed to them.
func reads() []struct {
	part part
	in   []byte
	num  uint64
	b    []byte
} {
	r := draw.Numbers(11)
	some, most := r.Bytes(20), r.Bytes(255)
	return []struct {
		part part
		in   []byte
		num  uint64
		b    []byte
	}{
		{part{way: wide8}, []byte{0x81}, 0x81, nil},
		{part{way: wide16}, []byte{0x82, 0x81}, 0x8182, nil},
		{part{way: wide32}, []byte{0x84, 0x83, 0x82, 0x81}, 0x81828384, nil},
		{part{way: wide64}, []byte{0x88, 0x87, 0x86, 0x85, 0x84, 0x83, 0x82, 0x81}, 0x8182838485868788, nil},
		{part{way: raw, n: 1}, []byte{5}, 0, []byte{5}},
		{part{way: raw, n: 20}, some, 0, some},
		{part{way: raw, n: 255}, most, 0, most},
		{part{way: short}, []byte{0}, 0, nil},
		{part{way: short, n: 9}, []byte{0}, 0, nil},
		{part{way: short, n: 1}, []byte{1, 6}, 0, []byte{6}},
		{part{way: short, n: 20}, append([]byte{20}, some...), 0, some},
		{part{way: short, n: 255}, append([]byte{255}, most...), 0, most},
		{part{way: short, n: 256}, append([]byte{255}, most...), 0, most},
		{part{way: short, n: math.MaxInt}, append([]byte{255}, most...), 0, most},
	}
}

// Just enough bytes, more than enough, and each number of them that is too
// few, in a new reader and in one that has read already.
func TestP2_3EnoughBytes(t *testing.T) {
	for _, have := range []int{0, 1, 7} {
		before := bytes.Repeat([]byte{0xEE}, have)
		for _, x := range reads() {
			what := "behind " + strconv.Itoa(have) + " " + x.part.String()
			for _, tail := range [][]byte{nil, {0}, {1, 2, 3}} {
				r := wire.NewReader(slices.Concat(before, x.in, tail))
				gave(t, what, 0, r.Raw(have), 0, before)
				num, b := read(r, x.part)
				gave(t, what, num, b, x.num, x.b)
				stands(t, what, r, len(tail), api.OK)
			}
			for n := range x.in {
				r := wire.NewReader(slices.Concat(before, x.in[:n]))
				gave(t, what, 0, r.Raw(have), 0, before)
				num, b := read(r, x.part)
				gave(t, what+", too few bytes", num, b, 0, nil)
				stands(t, what+", too few bytes", r, n, api.ErrShort)
				everyReadIsEmpty(t, what, r, n, api.ErrShort)
			}
		}
	}
}

// everyReadIsEmpty asks a reader with an error for all that there is, that
// which would fit and that which has an error of its own.
func everyReadIsEmpty(t *testing.T, what string, r *wire.Reader, left int, e api.Errno) {
	t.Helper()
	for way := range ways {
		for _, n := range []int{0, 1, 2, 255, -1, math.MaxInt, math.MinInt} {
			num, b := read(r, part{way: way, n: n})
			gave(t, what+", behind the error", num, b, 0, nil)
			stands(t, what+", behind the error", r, left, e)
		}
	}
}

func TestP2_3NoBytes(t *testing.T) {
	for _, none := range [][]byte{nil, {}} {
		for way := range ways {
			for _, n := range []int{0, 1, 255, -1, math.MinInt, math.MaxInt} {
				p := part{way: way, n: n}
				e := api.ErrShort
				switch {
				case way == raw && n < 0:
					e = api.ErrArg
				case way == zeros, way == fill, way == raw && n == 0:
					e = api.OK
				}
				r := wire.NewReader(none)
				stands(t, "no bytes", r, 0, api.OK)
				num, b := read(r, p)
				gave(t, p.String(), num, b, 0, nil)
				stands(t, p.String(), r, 0, e)
			}
		}
	}
}

func TestP2_3Raw(t *testing.T) {
	five := []byte("abcde")
	for _, x := range []struct {
		n    int
		want string
		e    api.Errno
	}{
		{math.MinInt, "", api.ErrArg},
		{-5, "", api.ErrArg},
		{-1, "", api.ErrArg},
		{0, "", api.OK},
		{1, "a", api.OK},
		{4, "abcd", api.OK},
		{5, "abcde", api.OK},
		{6, "", api.ErrShort},
		{1 << 31, "", api.ErrShort},
		{1 << 62, "", api.ErrShort},
		{math.MaxInt, "", api.ErrShort},
	} {
		r := wire.NewReader(five)
		what := "Raw(" + strconv.Itoa(x.n) + ")"
		gave(t, what, 0, r.Raw(x.n), 0, []byte(x.want))
		stands(t, what, r, 5-len(x.want), x.e)
		if x.e != api.OK {
			everyReadIsEmpty(t, what, r, 5, x.e)
		}
	}
}

func TestP2_3Short(t *testing.T) {
	long := append([]byte{255}, bytes.Repeat([]byte{7}, 255)...)
	for _, x := range []struct {
		in   []byte
		most int
		want []byte
		e    api.Errno
	}{
		{[]byte{0}, math.MinInt, nil, api.ErrMany},
		{[]byte{0}, -1, nil, api.ErrMany},
		{[]byte{0}, 0, nil, api.OK},
		{[]byte{0}, 255, nil, api.OK},
		{[]byte{0, 9}, 0, nil, api.OK},
		{nil, -1, nil, api.ErrShort},
		{nil, 0, nil, api.ErrShort},
		{nil, 300, nil, api.ErrShort},
		{[]byte("\x02ab"), -1, nil, api.ErrMany},
		{[]byte("\x02ab"), 0, nil, api.ErrMany},
		{[]byte("\x02ab"), 1, nil, api.ErrMany},
		{[]byte("\x02ab"), 2, []byte("ab"), api.OK},
		{[]byte("\x02abc"), 2, []byte("ab"), api.OK},
		{[]byte("\x02ab"), 3, []byte("ab"), api.OK},
		{[]byte("\x02a"), 2, nil, api.ErrShort},
		{[]byte("\x02a"), 1, nil, api.ErrMany}, // named first
		{[]byte("\x02"), 2, nil, api.ErrShort},
		{[]byte("\x02"), 1, nil, api.ErrMany},
		{long, 254, nil, api.ErrMany},
		{long, 255, long[1:], api.OK},
		{long, 256, long[1:], api.OK},
		{long, math.MaxInt, long[1:], api.OK},
		{long[:255], 255, nil, api.ErrShort},
		{long[:255], 256, nil, api.ErrShort},
		{long[:255], math.MaxInt, nil, api.ErrShort},
		{long[:255], 254, nil, api.ErrMany},
	} {
		r := wire.NewReader(x.in)
		what := "Short(" + strconv.Itoa(x.most) + ") of " + strconv.Itoa(len(x.in)) + " bytes"
		gave(t, what, 0, r.Short(x.most), 0, x.want)
		left := len(x.in)
		if x.e == api.OK {
			left -= 1 + len(x.want)
		}
		stands(t, what, r, left, x.e)
		if x.e != api.OK {
			everyReadIsEmpty(t, what, r, left, x.e)
		}
	}
}

func TestP2_3Zeros(t *testing.T) {
	for n := range 40 {
		r := wire.NewReader(append([]byte{8, 8}, make([]byte, n)...))
		wire.Get[uint16](r)
		r.Zeros()
		stands(t, "Zeros of "+strconv.Itoa(n), r, 0, api.OK)
		r.Zeros()
		stands(t, "Zeros again", r, 0, api.OK)
		for at := range n {
			for bit := range 8 {
				b := make([]byte, n)
				b[at] = 1 << bit
				r = wire.NewReader(append([]byte{0}, b...))
				wire.Get[uint8](r)
				r.Zeros()
				what := "Zeros of " + strconv.Itoa(n) + ", not 0 at " + strconv.Itoa(at)
				stands(t, what, r, n, api.ErrForm)
				if bit == 0 {
					everyReadIsEmpty(t, what, r, n, api.ErrForm)
				}
			}
		}
	}
}

// End tells ErrLong, and Err and the reads go on as if it had not.
func TestP2_4EndChangesNothing(t *testing.T) {
	r := wire.NewReader([]byte("\x01\x02ab\x00"))
	for range 3 {
		if e := r.End(); e != api.ErrLong {
			t.Errorf("End = %d", e)
		}
	}
	if e := r.Err(); e != api.OK {
		t.Errorf("Err behind End = %d", e)
	}
	gave(t, "uint8 behind End", uint64(wire.Get[uint8](r)), nil, 1, nil)
	if e := r.End(); e != api.ErrLong {
		t.Errorf("End = %d", e)
	}
	gave(t, "Short behind End", 0, r.Short(2), 0, []byte("ab"))
	if e := r.End(); e != api.ErrLong || r.Left() != 1 {
		t.Errorf("End = %d, Left = %d", e, r.Left())
	}
	r.Zeros()
	if e := r.End(); e != api.OK || r.Left() != 0 {
		t.Errorf("End = %d, Left = %d", e, r.Left())
	}
	gave(t, "uint8 of none", uint64(wire.Get[uint8](r)), nil, 0, nil)
	if e := r.End(); e != api.ErrShort || r.Err() != api.ErrShort {
		t.Errorf("End = %d, Err = %d", e, r.Err())
	}
}

// script is parts in a row, filled up at the end, with what they are as bytes.
func script(r *draw.Numbers) ([]part, []byte) {
	w := wire.NewWriter(api.MaxStream)
	var list []part
	for range 1 + r.Below(8) {
		p := part{way: r.Below(fill), num: r.Next()}
		if p.way < raw {
			p.num &= 1<<(8<<p.way-1)<<1 - 1 // what the width holds
		} else {
			p.num, p.b = 0, r.Bytes(r.Below(12))
			p.n = len(p.b)
		}
		write(w, p)
		list = append(list, p)
	}
	w.Fill(w.Len() + r.Below(6))
	b, _ := w.Done()
	return list, b
}

func TestP2_5WhatWasWrittenIsReadAgain(t *testing.T) {
	r := draw.Numbers(12)
	for range 1500 {
		list, all := script(&r)
		back := wire.NewReader(all)
		for _, p := range list {
			if p.way == short {
				p.n += r.Below(3) // a most that is not below
			}
			num, b := read(back, p)
			gave(t, p.String(), num, b, p.num, p.b)
		}
		back.Zeros()
		stands(t, "all of it", back, 0, api.OK)
		if t.Failed() {
			return
		}
	}
}

// Of each beginning: what is there whole is read; the first part that lacks a
// byte, and all behind it, answers the zero value.
func TestP2_5Beginnings(t *testing.T) {
	r := draw.Numbers(13)
	for range 150 {
		list, all := script(&r)
		for n := range all {
			back := wire.NewReader(all[:n])
			at, lacks := 0, false
			for _, p := range list {
				size := 1 << p.way
				if p.way >= raw {
					size = len(p.b) + p.way - raw // Short has a byte more
				}
				at += size
				lacks = lacks || at > n
				num, b := read(back, p)
				if lacks {
					gave(t, p.String()+" that is lacking", num, b, 0, nil)
				} else {
					gave(t, p.String(), num, b, p.num, p.b)
				}
				if lacks != (back.Err() == api.ErrShort) || !lacks && back.Err() != api.OK {
					t.Errorf("%s: Err = %d; does a byte lack? %v", p, back.Err(), lacks)
				}
			}
		}
		if t.Failed() {
			return
		}
	}
}

// Two readers in turns have nothing in common, of the same bytes too.
func TestP2_5TwoReaders(t *testing.T) {
	in := []byte("\x01\x02\x03\x04\x05\x06")
	a, b := wire.NewReader(in), wire.NewReader(in)
	gave(t, "the first", uint64(wire.Get[uint16](a)), nil, 0x0201, nil)
	stands(t, "the second", b, 6, api.OK)
	gave(t, "the second", uint64(wire.Get[uint8](b)), nil, 1, nil)
	gave(t, "the first", 0, a.Raw(2), 0, []byte{3, 4})
	gave(t, "the second", uint64(wire.Get[uint32](b)), nil, 0x05040302, nil)
	a.Raw(-1)
	stands(t, "the first", a, 2, api.ErrArg)
	stands(t, "the second", b, 1, api.OK)
	gave(t, "the second", uint64(wire.Get[uint8](b)), nil, 6, nil)
	stands(t, "the second", b, 0, api.OK)
}

func TestReadersFollowTheWords(t *testing.T) {
	r := draw.Numbers(14)
	for range 6000 {
		in := r.Bytes(r.Below(40))
		for i := range in {
			switch r.Below(3) {
			case 0:
				in[i] = 0
			case 1:
				in[i] &= 7
			}
		}
		back, m := wire.NewReader(in), &modelReader{bytes: in}
		for range 12 {
			p := part{way: r.Below(ways), n: r.Below(12)}
			if r.Below(60) == 0 {
				p.n = -r.Below(3)
			}
			if p.way == zeros && r.Below(4) > 0 {
				p.way = raw
			}
			num, b := read(back, p)
			wantNum, wantB := m.read(p)
			gave(t, p.String(), num, b, wantNum, wantB)
			stands(t, p.String(), back, m.left(), m.first)
			if back.End() != m.end() {
				t.Errorf("%s: End = %d, want %d", p, back.End(), m.end())
			}
		}
		if t.Failed() {
			return
		}
	}
}

// A reader is of the bytes that it was handed when it was made, and leaves
// them as they are, their spare room included.
func TestP2_6WhatAReaderIsHanded(t *testing.T) {
	room := []byte("....\x07\x03abcdefgh\x00\x00....")
	before := slices.Clone(room)
	r := wire.NewReader(room[4:16])
	if !bytes.Equal(room, before) {
		t.Fatal("NewReader has changed what was handed in")
	}
	for i := range room {
		room[i] = 0xAA
	}
	gave(t, "uint8", uint64(wire.Get[uint8](r)), nil, 7, nil)
	gave(t, "Short", 0, r.Short(3), 0, []byte("abc"))
	gave(t, "Raw", 0, r.Raw(5), 0, []byte("defgh"))
	r.Zeros()
	stands(t, "all read", r, 0, api.OK)
	for i := range room {
		if room[i] != 0xAA {
			t.Fatal("a reader has changed what was handed in")
		}
	}
}

// What Raw and Short answer is new, its spare room included: neither what is
// read next nor another answer changes when it is written over.
func TestP2_6WhatAReaderAnswers(t *testing.T) {
	var in []byte
	for i := range 50 {
		in = append(in, byte(i), byte(i), 2, byte(i), byte(i+1), 0)
	}
	r := wire.NewReader(in)
	var answers [][]byte
	for i := range 50 {
		a := r.Raw(2)
		gave(t, "Raw", 0, a, 0, []byte{byte(i), byte(i)})
		b := r.Short(2)
		gave(t, "Short", 0, b, 0, []byte{byte(i), byte(i + 1)})
		none := r.Short(0)
		gave(t, "Short of none", 0, none, 0, nil)
		for _, x := range [][]byte{a, b, none, r.Raw(0)} {
			x = x[:cap(x)]
			for j := range x {
				if x[j] == 0xAA {
					t.Fatal("two answers share their memory")
				}
				x[j] = 0xAA
			}
			answers = append(answers, x)
		}
	}
	stands(t, "all read", r, 0, api.OK)
	for _, x := range answers {
		for j := range x {
			if x[j] != 0xAA {
				t.Fatal("an answer has changed behind the call")
			}
		}
	}
}

// R5: what is answered is the same in several goroutines at a time, and does
// not hang on a capacity.
func TestR5AlwaysTheSame(t *testing.T) {
	var all sync.WaitGroup
	for k := range 8 {
		all.Go(func() {
			r := draw.Numbers(15)
			for range 50 {
				list, in := script(&r)
				back := wire.NewReader(slices.Grow(in, 100*k))
				for _, p := range list {
					num, b := read(back, p)
					gave(t, p.String(), num, b, p.num, p.b)
				}
			}
		})
	}
	all.Wait()
}
