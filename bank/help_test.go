package bank_test

import (
	"encoding/binary"
	"hash/crc32"
	"math"
	"slices"
	"testing"

	"coppice/api"
	"coppice/bank"
	"coppice/draw"
)

// The calls have just these types.
var (
	_ func(int) int                                  = bank.Blocks
	_ func(int, []int) ([][]byte, api.Errno)         = bank.Encode
	_ func(int, int, int, []byte) ([]int, api.Errno) = bank.Block
	_ func(int, int, [][]byte) ([]int, api.Errno)    = bank.Decode
)

// The limits of the chapter, as numbers.
const (
	mostPages = 65536
	mostGen   = 1 << 40
	mostRefs  = 65535
	perBlock  = 240
	greatest  = math.MaxInt
	least     = math.MinInt
)

var (
	gens    = []int{0, 1, 7, 255, 256, 1 << 32, mostGen - 1, mostGen}
	noGens  = []int{-1, -2, -mostGen, mostGen + 1, 2 * mostGen, greatest, least}
	noPages = []int{-1, -2, -240, -mostPages, mostPages + 1, 2 * mostPages, 1 << 32, 1<<32 + 3, greatest, least}
	// lengths are those that no block has.
	lengths = []int{0, 1, 4, 17, 23, 497, 508, 511, 513, 516, 1024, 65536 + 512}
	// sizes are numbers of pages at each side of what fills a block, and the limits.
	sizes = []int{1, 2, 3, 239, 240, 241, 242, 479, 480, 481, 500, 719, 720, 721, 65519, 65520, 65521, 65535, 65536}
)

// rising are n counts that are unlike their neighbours and use both of their bytes.
func rising(n int) []int {
	counts := make([]int, n)
	for i := range counts {
		counts[i] = (i*263 + 1) % 65536
	}
	return counts
}

func some(r *draw.Numbers, n int) []int {
	counts := make([]int, n)
	for i := range counts {
		counts[i] = r.Below(1 + mostRefs)
	}
	return counts
}

// modelBlocks counts the blocks one by one.
func modelBlocks(pages int) int {
	n := 0
	for ; pages > 0; pages -= perBlock {
		n++
	}
	return n
}

// headBytes are what a block begins with.
func headBytes(gen, pages, i uint64) []byte {
	b := binary.LittleEndian.AppendUint64([]byte{0x42}, gen)
	b = binary.LittleEndian.AppendUint32(b, uint32(i))
	return binary.LittleEndian.AppendUint32(b, uint32(pages))
}

// sealed is the block that these bytes begin: zeros behind them, and the right sum,
// by the library's own CRC-32C.
func sealed(b []byte) []byte {
	b = append(slices.Clone(b), make([]byte, 508-len(b))...)
	return binary.LittleEndian.AppendUint32(b, crc32.Checksum(b, crc32.MakeTable(crc32.Castagnoli)))
}

// resealed is the block with the sum made right.
func resealed(b []byte) []byte { return sealed(b[:508]) }

// modelBank is the bank of these counts, by the chapter's table.
func modelBank(gen int, counts []int) [][]byte {
	var blocks [][]byte
	for part := range slices.Chunk(counts, perBlock) {
		b := headBytes(uint64(gen), uint64(len(counts)), uint64(len(blocks)))
		for _, c := range part {
			b = binary.LittleEndian.AppendUint16(b, uint16(c))
		}
		blocks = append(blocks, sealed(b))
	}
	return blocks
}

// modelBlock is P8.3 word by word.
func modelBlock(gen, pages, i int, b []byte) ([]int, api.Errno) {
	if gen < 0 || gen > mostGen || pages < 0 || pages > mostPages || i < 0 || i > modelBlocks(pages)-1 {
		return nil, api.ErrArg
	}
	if len(b) != 512 {
		return nil, api.ErrBlock
	}
	if binary.LittleEndian.Uint32(b[508:]) != crc32.Checksum(b[:508], crc32.MakeTable(crc32.Castagnoli)) {
		return nil, api.ErrSum
	}
	if b[0] != 66 {
		return nil, api.ErrForm
	}
	if binary.LittleEndian.Uint64(b[1:]) != uint64(gen) || binary.LittleEndian.Uint32(b[9:]) != uint32(i) || binary.LittleEndian.Uint32(b[13:]) != uint32(pages) {
		return nil, api.ErrOther
	}
	var counts []int
	at := 17
	for no := perBlock*i + 1; no <= pages && no <= perBlock*i+perBlock; no++ {
		counts = append(counts, int(binary.LittleEndian.Uint16(b[at:])))
		at += 2
	}
	for ; at < 508; at++ {
		if b[at] != 0 {
			return nil, api.ErrForm
		}
	}
	return counts, api.OK
}

// turned is the block with another byte at a place.
func turned(b []byte, at int, turn byte) []byte {
	b = slices.Clone(b)
	b[at] ^= turn
	return b
}

// encoded is the bank of counts that Encode must take.
func encoded(t *testing.T, gen int, counts []int) [][]byte {
	t.Helper()
	blocks, e := bank.Encode(gen, counts)
	if e != api.OK || len(blocks) != modelBlocks(len(counts)) {
		t.Fatalf("Encode(%d, %d counts) = %d blocks, %d", gen, len(counts), len(blocks), e)
	}
	return blocks
}

// encodeRefused holds Encode against its error, with which it answers nothing else.
func encodeRefused(t *testing.T, what string, gen int, counts []int, want api.Errno) {
	t.Helper()
	if blocks, e := bank.Encode(gen, counts); e != want || len(blocks) != 0 {
		t.Errorf("%s: Encode(%d, %d counts) = %d blocks, %d; want %d", what, gen, len(counts), len(blocks), e, want)
	}
}

// taken holds Block against the counts that it must answer.
func taken(t *testing.T, what string, gen, pages, i int, b []byte, want []int) {
	t.Helper()
	if counts, e := bank.Block(gen, pages, i, b); e != api.OK || !slices.Equal(counts, want) {
		t.Fatalf("%s: Block(%d, %d, %d) = %v, %d; want %v", what, gen, pages, i, counts, e, want)
	}
}

// refused holds Block against its error, with which it answers nothing else.
func refused(t *testing.T, what string, gen, pages, i int, b []byte, want api.Errno) {
	t.Helper()
	if counts, e := bank.Block(gen, pages, i, b); e != want || len(counts) != 0 {
		t.Fatalf("%s: Block(%d, %d, %d) = %v, %d; want %d", what, gen, pages, i, counts, e, want)
	}
}

// decodes holds Decode against the counts that it must answer.
func decodes(t *testing.T, what string, gen int, blocks [][]byte, want []int) {
	t.Helper()
	if counts, e := bank.Decode(gen, len(want), blocks); e != api.OK || !slices.Equal(counts, want) {
		t.Fatalf("%s: Decode(%d, %d) = %d counts, %d", what, gen, len(want), len(counts), e)
	}
}

// decodeRefused holds Decode against its error, with which it answers nothing else.
func decodeRefused(t *testing.T, what string, gen, pages int, blocks [][]byte, want api.Errno) {
	t.Helper()
	if counts, e := bank.Decode(gen, pages, blocks); e != want || len(counts) != 0 {
		t.Fatalf("%s: Decode(%d, %d, %d blocks) = %d counts, %d; want %d", what, gen, pages, len(blocks), len(counts), e, want)
	}
}
