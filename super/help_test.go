package super_test

import (
	"encoding/binary"
	"hash/crc32"
	"math"
	"slices"
	"testing"

	"coppice/api"
	"coppice/super"
)

// The calls have just these types.
var (
	_ func(api.Config) (api.Plan, api.Errno) = super.Plan
	_ func(int) int                          = super.Slot
	_ func(api.Plan, int) int                = super.Bank
	_ func(api.Plan, int) (int, bool)        = super.Block
	_ func(api.Super) api.Errno              = super.Check
	_ func(api.Super) ([]byte, api.Errno)    = super.Encode
	_ func([]byte) (api.Super, api.Errno)    = super.Decode
	_ func(api.Super, int) (api.Tree, bool)  = super.Find
)

// The limits of the chapter, as numbers.
const (
	leastBlocks = 8
	mostBlocks  = 65536
	mostClones  = 16
	mostRefs    = 65535
	mostHeight  = 12
	mostGen     = 1 << 40
	mostId      = 1<<31 - 1
	greatest    = math.MaxInt
	least       = math.MinInt
)

// Where the parts stand in a block.
const (
	atGen    = 4
	atBlocks = 12
	atClones = 16
	atRefs   = 17
	atNext   = 21
	atMany   = 25
	atRoots  = 26
	perRoot  = 13
)

// counted are the answers of modelPages, which are asked for often.
var counted = map[int]int{}

// modelPages is how many pages have room, tried one by one.
func modelPages(blocks int) int {
	if p, ok := counted[blocks]; ok {
		return p
	}
	p := 0
	for 2+2*modelBank(p+1)+p+1 <= blocks {
		p++
	}
	counted[blocks] = p
	return p
}

// modelBank is how many blocks the counts of so many pages take, rounded up.
func modelBank(pages int) int {
	n := pages / 240
	if pages%240 != 0 {
		n++
	}
	return n
}

func modelMayBe(c api.Config) bool {
	return c.Blocks >= 8 && c.Blocks <= 65536 && c.Clones >= 1 && c.Clones <= 16 && c.Refs >= 2 && c.Refs <= 65535
}

// modelCheck is P9.3 word by word.
func modelCheck(s api.Super) api.Errno {
	if !modelMayBe(s.Config) {
		return api.ErrArg
	}
	if s.Gen < 0 || s.Gen > mostGen || s.Next < 1 || s.Next > mostId+1 || len(s.Roots) > s.Config.Clones {
		return api.ErrMany
	}
	for i, r := range s.Roots {
		if r.Id < 1 || r.Id > s.Next-1 || i > 0 && r.Id <= s.Roots[i-1].Id {
			return api.ErrOrder
		}
	}
	pages := modelPages(s.Config.Blocks)
	for _, r := range s.Roots {
		t := r.Tree
		zero := t.Root == 0 && t.Height == 0 && t.Items == 0
		if !zero && (t.Root < 1 || t.Root > pages || t.Height < 1 || t.Height > mostHeight || t.Items < 1 || t.Items > pages*8) {
			return api.ErrForm
		}
	}
	return api.OK
}

// said are the bytes that a superblock begins with, whether Check takes it or not.
func said(s api.Super) []byte {
	b := binary.LittleEndian.AppendUint64([]byte{0x43, 0x4f, 0x50, 0x31}, uint64(s.Gen))
	b = binary.LittleEndian.AppendUint32(b, uint32(s.Config.Blocks))
	b = append(b, byte(s.Config.Clones))
	b = binary.LittleEndian.AppendUint32(b, uint32(s.Config.Refs))
	b = binary.LittleEndian.AppendUint32(b, uint32(s.Next))
	b = append(b, byte(len(s.Roots)))
	for _, r := range s.Roots {
		b = binary.LittleEndian.AppendUint32(b, uint32(r.Id))
		b = binary.LittleEndian.AppendUint32(b, uint32(r.Tree.Root))
		b = append(b, byte(r.Tree.Height))
		b = binary.LittleEndian.AppendUint32(b, uint32(r.Tree.Items))
	}
	return b
}

// sealed is the block that these bytes begin: zeros behind them, and the right sum,
// by the library's own CRC-32C.
func sealed(b []byte) []byte {
	b = append(slices.Clone(b), make([]byte, 508-len(b))...)
	return binary.LittleEndian.AppendUint32(b, crc32.Checksum(b, crc32.MakeTable(crc32.Castagnoli)))
}

// resealed is the block with the sum made right.
func resealed(b []byte) []byte { return sealed(b[:508]) }

// blockOf is the block that says such a superblock, whether Check takes it or not.
func blockOf(s api.Super) []byte { return sealed(said(s)) }

// modelDecode is P9.5 word by word; what a block says is read place by place.
func modelDecode(b []byte) (api.Super, api.Errno) {
	if len(b) != 512 {
		return api.Super{}, api.ErrArg
	}
	if binary.LittleEndian.Uint32(b[508:]) != crc32.Checksum(b[:508], crc32.MakeTable(crc32.Castagnoli)) {
		return api.Super{}, api.ErrSum
	}
	s := api.Super{
		Gen:    int(binary.LittleEndian.Uint64(b[atGen:])),
		Config: api.Config{Blocks: number(b, atBlocks), Clones: int(b[atClones]), Refs: number(b, atRefs)},
		Next:   number(b, atNext),
	}
	for i := 0; i < int(b[atMany]) && i < 37; i++ { // so many of 13 bytes have room
		at := atRoots + perRoot*i
		s.Roots = append(s.Roots, api.Root{Id: number(b, at), Tree: api.Tree{Root: number(b, at+4), Height: int(b[at+8]), Items: number(b, at+9)}})
	}
	if modelCheck(s) != api.OK || !slices.Equal(blockOf(s), b) {
		return api.Super{}, api.ErrForm
	}
	return s, api.OK
}

func number(b []byte, at int) int { return int(binary.LittleEndian.Uint32(b[at:])) }

// turned is the block with another byte at a place.
func turned(b []byte, at int, turn byte) []byte {
	b = slices.Clone(b)
	b[at] ^= turn
	return b
}

// with is the block with other bytes from a place on, and the sum made right.
func with(b []byte, at int, other ...byte) []byte {
	b = slices.Clone(b)
	copy(b[at:], other)
	return resealed(b)
}

// first is the least superblock of all, that of the chapter's examples.
func first() api.Super {
	return api.Super{Config: api.Config{Blocks: 8, Clones: 1, Refs: 2}, Next: 1}
}

// small is one with two roots, of which more can be wrong.
func small() api.Super {
	return api.Super{Gen: 5, Config: api.Config{Blocks: 8, Clones: 3, Refs: 9}, Next: 7,
		Roots: []api.Root{{Id: 2, Tree: api.Tree{Root: 4, Height: 2, Items: 9}}, {Id: 6}}}
}

// full is one with as many roots as there can be, the greatest numbers among them.
func full() api.Super {
	s := api.Super{Gen: mostGen, Config: api.Config{Blocks: mostBlocks, Clones: mostClones, Refs: mostRefs}, Next: mostId + 1}
	for i := range mostClones {
		t := api.Tree{Root: 64992 - i*3777, Height: 12 - i%12, Items: 519936 - i*30007}
		s.Roots = append(s.Roots, api.Root{Id: mostId - (mostClones-1-i)*123456789, Tree: t})
	}
	s.Roots[7].Tree = api.Tree{}
	return s
}

func sameSuper(a, b api.Super) bool {
	return a.Gen == b.Gen && a.Config == b.Config && a.Next == b.Next && slices.Equal(a.Roots, b.Roots)
}

// checks holds Check against its answer, and Encode, which takes just what Check does
// and answers no bytes beside an error.
func checks(t *testing.T, what string, s api.Super, want api.Errno) {
	t.Helper()
	if e := super.Check(s); e != want {
		t.Fatalf("%s: Check(%v) = %d, want %d", what, s, e, want)
	}
	b, e := super.Encode(s)
	if e != want || e != api.OK && len(b) != 0 {
		t.Fatalf("%s: Encode(%v) = %d bytes, %d; want %d", what, s, len(b), e, want)
	}
	if e == api.OK && !slices.Equal(b, blockOf(s)) {
		t.Fatalf("%s: Encode(%v) = %x; want %x", what, s, b, blockOf(s))
	}
}

// decodes holds Decode against the superblock that it must answer.
func decodes(t *testing.T, what string, b []byte, want api.Super) {
	t.Helper()
	if s, e := super.Decode(b); e != api.OK || !sameSuper(s, want) {
		t.Fatalf("%s: Decode = %v, %d; want %v", what, s, e, want)
	}
}

// refused holds Decode against its error, with which it answers nothing else.
func refused(t *testing.T, what string, b []byte, want api.Errno) {
	t.Helper()
	if s, e := super.Decode(b); e != want || !sameSuper(s, api.Super{}) {
		t.Fatalf("%s: Decode = %v, %d; want %d", what, s, e, want)
	}
}
