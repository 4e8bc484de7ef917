package super_test

import (
	"bytes"
	"encoding/binary"
	"slices"
	"strconv"
	"testing"

	"coppice/api"
	"coppice/draw"
	"coppice/super"
)

// taken are superblocks that Check takes.
func taken() []api.Super {
	l := []api.Super{first(), small(), full()}
	for n := range mostClones + 1 {
		s := full()
		s.Roots = s.Roots[:n]
		l = append(l, s)
		s = api.Super{Gen: n, Config: api.Config{Blocks: 8 + n, Clones: max(n, 1), Refs: 2 + n}, Next: n + 1}
		for i := range n {
			s.Roots = append(s.Roots, api.Root{Id: i + 1})
		}
		l = append(l, s)
	}
	return l
}

func encoded(t *testing.T, s api.Super) []byte {
	t.Helper()
	b, e := super.Encode(s)
	if e != api.OK || len(b) != 512 {
		t.Fatalf("Encode(%v) = %d bytes, %d", s, len(b), e)
	}
	return b
}

func TestExamplesOfEncode(t *testing.T) {
	want := []byte{0x43, 0x4f, 0x50, 0x31, 0, 0, 0, 0, 0, 0, 0, 0, 8, 0, 0, 0, 1, 2, 0, 0, 0, 1, 0, 0, 0, 0}
	b := encoded(t, first())
	if !bytes.Equal(b[:len(want)], want) || !bytes.Equal(b[len(want):508], make([]byte, 508-len(want))) || !bytes.Equal(b, sealed(want)) {
		t.Errorf("Encode = %x", b)
	}
}

func TestP9_4EachByte(t *testing.T) {
	s := api.Super{Gen: 0x0102030405, Config: api.Config{Blocks: 0x1234, Clones: 9, Refs: 0xABCD}, Next: 0x71625344, Roots: []api.Root{
		{Id: 0x01020304, Tree: api.Tree{Root: 0x0567, Height: 11, Items: 0x4321}},
		{Id: 0x11223344, Tree: api.Tree{}},
		{Id: 0x71625343, Tree: api.Tree{Root: 1, Height: 1, Items: 8}}}}
	want := []byte{0x43, 0x4f, 0x50, 0x31, 5, 4, 3, 2, 1, 0, 0, 0, 0x34, 0x12, 0, 0, 9, 0xCD, 0xAB, 0, 0, 0x44, 0x53, 0x62, 0x71, 3,
		4, 3, 2, 1, 0x67, 5, 0, 0, 11, 0x21, 0x43, 0, 0,
		0x44, 0x33, 0x22, 0x11, 0, 0, 0, 0, 0, 0, 0, 0, 0,
		0x43, 0x53, 0x62, 0x71, 1, 0, 0, 0, 1, 8, 0, 0, 0}
	if b := encoded(t, s); !bytes.Equal(b, sealed(want)) {
		t.Errorf("Encode = %x", b)
	}
	decodes(t, "these bytes", sealed(want), s)
}

func TestP9_4Encode(t *testing.T) {
	for _, s := range taken() {
		if b := encoded(t, s); !bytes.Equal(b, blockOf(s)) {
			t.Fatalf("Encode(%v) = %x", s, b)
		}
	}
}

func TestExamplesOfDecode(t *testing.T) {
	b := blockOf(first())
	refused(t, "511 bytes", b[:511], api.ErrArg)
	refused(t, "bytes 0", make([]byte, 512), api.ErrSum)
	refused(t, "another first byte and a right sum", resealed(turned(b, 0, 1)), api.ErrForm)
	decodes(t, "the block", b, first())
}

func TestP9_5Decode(t *testing.T) {
	for _, s := range taken() {
		decodes(t, "a block", blockOf(s), s)
	}
}

// Of another length nothing else is asked.
func TestP9_5Lengths(t *testing.T) {
	for _, s := range []api.Super{first(), full()} {
		long := append(blockOf(s), make([]byte, 1<<17)...)
		for _, n := range []int{0, 1, 4, 25, 26, 39, 234, 508, 511, 513, 516, 1024, 1<<16 + 512} {
			what := "a length of " + strconv.Itoa(n)
			refused(t, what, long[:n], api.ErrArg)
			refused(t, what, make([]byte, n), api.ErrArg)
			refused(t, what, turned(long, 0, 1)[:n], api.ErrArg)
		}
	}
	refused(t, "nil", nil, api.ErrArg)
	refused(t, "two blocks", append(blockOf(first()), blockOf(first())...), api.ErrArg)
}

// With the sum wrong, no other fault is told.
func TestP9_5Sum(t *testing.T) {
	b := blockOf(small())
	for at := 508; at < 512; at++ {
		for x := 1; x < 256; x++ {
			refused(t, "another sum", turned(b, at, byte(x)), api.ErrSum)
			refused(t, "another sum and another mark", turned(resealed(turned(b, 3, 1)), at, byte(x)), api.ErrSum)
		}
	}
	swapped := slices.Clone(b)
	slices.Reverse(swapped[508:])
	refused(t, "the sum with its highest byte first", swapped, api.ErrSum)
	for at := range 508 {
		refused(t, "another sum and another byte "+strconv.Itoa(at), turned(resealed(turned(b, at, 3)), 511, 1), api.ErrSum)
	}
	for _, f := range faults() {
		refused(t, "another sum and "+f.what, turned(sealed(said(changed(small(), f.lay))[:26]), 509, 8), api.ErrSum)
	}
}

func TestP9_5Mark(t *testing.T) {
	b := blockOf(small())
	for at := range 4 {
		for x := 1; x < 256; x++ {
			refused(t, "another mark", resealed(turned(b, at, byte(x))), api.ErrForm)
		}
	}
	refused(t, "the mark the other way round", with(b, 0, 0x31, 0x50, 0x4f, 0x43), api.ErrForm)
	refused(t, "no mark", with(b, 0, 0, 0, 0, 0), api.ErrForm)
	refused(t, "another mark and a byte behind the roots", resealed(turned(turned(b, 0, 1), 507, 1)), api.ErrForm)
}

// Whatever number of roots is told of a block that has two: it is refused. With fewer
// what the others say is not 0; more are of bytes 0, which no root is.
func TestP9_5HowManyRoots(t *testing.T) {
	for _, s := range []api.Super{small(), full(), first()} {
		b := blockOf(s)
		for n := range 256 {
			if n != len(s.Roots) {
				refused(t, strconv.Itoa(n)+" roots", with(b, atMany, byte(n)), api.ErrForm)
			}
		}
	}
	// 17 roots and more that are all well but for their number.
	for _, n := range []int{17, 18, 37} {
		s := api.Super{Config: api.Config{Blocks: 8, Clones: 16, Refs: 2}, Next: 100}
		for i := range n {
			s.Roots = append(s.Roots, api.Root{Id: i + 1})
		}
		refused(t, strconv.Itoa(n)+" roots", blockOf(s), api.ErrForm)
		decodes(t, "the first 16 of them", blockOf(rooted(s, s.Roots[:16]...)), rooted(s, s.Roots[:16]...))
		// As many as there can be, with the others behind them.
		refused(t, "16 of "+strconv.Itoa(n), with(blockOf(s), atMany, 16), api.ErrForm)
	}
	s := api.Super{Config: api.Config{Blocks: 8, Clones: 2, Refs: 2}, Next: 100, Roots: []api.Root{{Id: 1}, {Id: 2}, {Id: 3}}}
	refused(t, "one root more than Clones", blockOf(s), api.ErrForm)
}

// A superblock that Check does not take, as far as its numbers have room in a block.
func TestP9_5WhatCheckRefuses(t *testing.T) {
	for _, f := range faults() {
		s := changed(small(), f.lay)
		if len(said(s)) > 508 {
			continue
		}
		b := blockOf(s)
		if want, e := modelDecode(b); e == api.OK { // cut to its width the number is another one
			decodes(t, f.what, b, want)
			continue
		}
		refused(t, f.what, b, api.ErrForm)
		refused(t, f.what+" and a byte behind the roots", resealed(turned(b, 507, 1)), api.ErrForm)
		refused(t, f.what+" and another mark", resealed(turned(b, 0, 1)), api.ErrForm)
	}
}

// Each number of a block at its limits, and beyond them, up to what its bytes hold.
func TestP9_5NumbersInTheBlock(t *testing.T) {
	b := blockOf(small())
	wide := func(x uint32) []byte { return binary.LittleEndian.AppendUint32(nil, x) }
	try := func(what string, c []byte, ok bool) {
		t.Helper()
		s, e := super.Decode(c)
		if ok != (e == api.OK) || !ok && (e != api.ErrForm || !sameSuper(s, api.Super{})) || ok && !bytes.Equal(blockOf(s), c) {
			t.Fatalf("%s: %v, %d", what, s, e)
		}
	}
	for _, x := range []uint64{0, 1, mostGen - 1, mostGen, mostGen + 1, 1 << 41, 1<<63 - 1, 1 << 63, 1<<63 + 5, 1<<64 - 1, 1<<64 - 5} {
		try("Gen", with(b, atGen, binary.LittleEndian.AppendUint64(nil, x)...), x <= mostGen)
	}
	for _, x := range []uint32{0, 7, 8, 9, 65535, 65536, 65537, 1 << 31, 1<<32 - 1} {
		try("Blocks", with(b, atBlocks, wide(x)...), x >= 8 && x <= 65536)
	}
	for x := range 256 {
		try("Clones", with(b, atClones, byte(x)), x >= 2 && x <= 16)
		try("Height", with(b, atRoots+8, byte(x)), x >= 1 && x <= 12)
		try("the last Height", with(b, atRoots+perRoot+8, byte(x)), x == 0)
	}
	for _, x := range []uint32{0, 1, 2, 3, 65535, 65536, 65537, 1 << 31, 1<<32 - 1} {
		try("Refs", with(b, atRefs, wide(x)...), x >= 2 && x <= 65535)
	}
	for _, x := range []uint32{0, 1, 6, 7, 8, mostId, mostId + 1, mostId + 2, 1<<32 - 1} {
		try("Next", with(b, atNext, wide(x)...), x >= 7 && x <= mostId+1)
	}
	for _, x := range []uint32{0, 1, 2, 5, 6, 7, mostId, 1 << 31, 1<<32 - 1} {
		try("the first Id", with(b, atRoots, wide(x)...), x >= 1 && x <= 5)
		try("the last Id", with(b, atRoots+perRoot, wide(x)...), x >= 3 && x <= 6)
	}
	for _, x := range []uint32{0, 1, 4, 5, 8, 1 << 31, 1<<32 - 1} {
		try("Root", with(b, atRoots+4, wide(x)...), x >= 1 && x <= 4)
		try("the last Root", with(b, atRoots+perRoot+4, wide(x)...), x == 0)
	}
	for _, x := range []uint32{0, 1, 31, 32, 33, 1 << 31, 1<<32 - 1} {
		try("Items", with(b, atRoots+9, wide(x)...), x >= 1 && x <= 32)
		try("the last Items", with(b, atRoots+perRoot+9, wide(x)...), x == 0)
	}
}

// Each byte between the last root and the sum.
func TestP9_5BytesBehindTheRoots(t *testing.T) {
	for _, s := range []api.Super{first(), small(), full()} {
		b := blockOf(s)
		for at := atRoots + perRoot*len(s.Roots); at < 508; at++ {
			for _, turn := range []byte{1, 128, 255} {
				refused(t, "byte "+strconv.Itoa(at), resealed(turned(b, at, turn)), api.ErrForm)
			}
		}
	}
}

// Blocks with up to four faults against the model; and what Decode takes is what
// Encode lays.
func TestP9_5AnyBlock(t *testing.T) {
	r := draw.Numbers(95)
	all, oks := taken(), 0
	for range 60000 {
		s := all[r.Below(len(all))]
		b := blockOf(s)
		for range r.Below(4) {
			at := []int{r.Below(26), r.Below(26), 26 + r.Below(208), atRoots + r.Below(1+perRoot*len(s.Roots)), r.Below(508)}[r.Below(5)]
			if r.Below(2) == 0 {
				b[at] ^= 1 << r.Below(8)
			} else {
				b[at] = byte(r.Below(14))
			}
		}
		b = resealed(b)
		switch r.Below(16) {
		case 0:
			b[r.Below(512)] ^= 4
		case 1:
			b = b[:r.Below(512)]
		}
		want, e := modelDecode(b)
		got, f := super.Decode(b)
		if f != e || !sameSuper(got, want) {
			t.Fatalf("Decode(%x) = %v, %d; want %v, %d", b, got, f, want, e)
		}
		if f == api.OK {
			oks++
			if again := encoded(t, got); !bytes.Equal(again, b) {
				t.Fatalf("Encode(Decode(%x)) = %x", b, again)
			}
		}
	}
	if oks < 10000 || oks > 50000 {
		t.Errorf("%d of 60000 blocks are taken: these are no blocks of both sorts", oks)
	}
}

// anySuper is one that Check takes.
func anySuper(r *draw.Numbers) api.Super {
	s := api.Super{Gen: r.Below(mostGen + 1), Next: 1 + r.Below(mostId+1)}
	s.Config = api.Config{Blocks: []int{8, 9, 100, 247, 5000, 65536}[r.Below(6)], Clones: 1 + r.Below(16), Refs: 2 + r.Below(65534)}
	pages := modelPages(s.Config.Blocks)
	if r.Below(4) == 0 {
		s.Next = 1 + r.Below(20)
	}
	last := 0
	for range r.Below(s.Config.Clones + 1) {
		if last == s.Next-1 {
			break
		}
		last += 1 + r.Below((s.Next-1-last+7)/8)
		root := api.Root{Id: last}
		if r.Below(5) > 0 {
			root.Tree = api.Tree{Root: 1 + r.Below(pages), Height: 1 + r.Below(12), Items: 1 + r.Below(8*pages)}
		}
		s.Roots = append(s.Roots, root)
	}
	return s
}

func TestP9_7ThereAndBack(t *testing.T) {
	r := draw.Numbers(97)
	for range 20000 {
		s := anySuper(&r)
		b := encoded(t, s)
		if !bytes.Equal(b, blockOf(s)) {
			t.Fatalf("Encode(%v) = %x", s, b)
		}
		decodes(t, "what Encode laid", b, s)
	}
}

// One other byte, whatever it is, is always found.
func TestP9_7OneOtherByte(t *testing.T) {
	for _, s := range []api.Super{first(), small(), full()} {
		b := encoded(t, s)
		for at := range b {
			for x := 1; x < 256; x++ {
				b[at] ^= byte(x)
				if got, e := super.Decode(b); e != api.ErrSum || !sameSuper(got, api.Super{}) {
					t.Fatalf("byte %d turned by %d: %v, %d", at, x, got, e)
				}
				b[at] ^= byte(x)
			}
		}
		decodes(t, "with no byte turned", b, s)
	}
}
