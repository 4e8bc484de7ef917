package bank

import (
	"coppice/api"
	"coppice/seal"
	"coppice/wire"
)

// letter is the first byte of each block of a bank.
const letter uint8 = 'B'

// head is what a block says of the bank that it is of. The numbers are as wide as
// they stand there, so that one that is too great for an int is just another one.
type head struct {
	gen       uint64
	no, pages uint32
}

func headOf(gen, pages, i int) head {
	return head{gen: uint64(gen), no: uint32(i), pages: uint32(pages)}
}

func (h head) write(w *wire.Writer) {
	wire.Put(w, h.gen)
	wire.Put(w, h.no)
	wire.Put(w, h.pages)
}

func readHead(r *wire.Reader) head {
	var h head
	h.gen = wire.Get[uint64](r)
	h.no = wire.Get[uint32](r)
	h.pages = wire.Get[uint32](r)
	return h
}

// row is the counts of one block, by their places there. Of the last block of a bank
// those behind the last page stay 0 and are not written.
type row [api.PerBlock]uint16

// countsIn is how many counts the block i of a bank has.
func countsIn(pages, i int) int { return min(pages-i*api.PerBlock, api.PerBlock) }

func rowOf(counts []int, i int) row {
	var c row
	for at := range countsIn(len(counts), i) {
		c[at] = uint16(counts[i*api.PerBlock+at])
	}
	return c
}

func (c row) write(w *wire.Writer, n int) {
	for at := range n {
		wire.Put(w, c[at])
	}
}

func readRow(r *wire.Reader, n int) row {
	var c row
	for at := range n {
		c[at] = wire.Get[uint16](r)
	}
	return c
}

func (c row) list(n int) []int {
	l := make([]int, n)
	for at := range n {
		l[at] = int(c[at])
	}
	return l
}

// blocksOf is the bank of counts that can be.
func blocksOf(gen int, counts []int) [][]byte {
	var blocks [][]byte
	for i := range Blocks(len(counts)) {
		w := wire.NewWriter(api.BlockSize)
		wire.Put(w, letter)
		headOf(gen, len(counts), i).write(w)
		rowOf(counts, i).write(w, countsIn(len(counts), i))
		b, _ := seal.Close(w) // it always has room: a full row ends at byte 497
		blocks = append(blocks, b)
	}
	return blocks
}
