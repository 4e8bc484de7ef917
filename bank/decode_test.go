package bank_test

import (
	"bytes"
	"slices"
	"strconv"
	"sync"
	"testing"

	"coppice/api"
	"coppice/bank"
	"coppice/draw"
)

func TestExamplesOfDecode(t *testing.T) {
	that := [][]byte{first()}
	decodes(t, "that block", 7, that, []int{1, 0, 258})
	decodeRefused(t, "another generation", 8, 3, that, api.ErrOther)
	decodeRefused(t, "other pages", 7, 2, that, api.ErrOther)
	decodeRefused(t, "no blocks", 7, 3, nil, api.ErrArg)
	decodes(t, "no blocks of no pages", 7, nil, nil)
}

func TestP8_4Decode(t *testing.T) {
	r := draw.Numbers(84)
	for _, n := range append([]int{0}, sizes...) {
		for _, gen := range []int{0, 1, mostGen, r.Below(mostGen)} {
			counts := some(&r, n)
			decodes(t, "a bank of "+strconv.Itoa(n), gen, modelBank(gen, counts), counts)
		}
	}
}

func TestP8_4Arguments(t *testing.T) {
	for _, n := range []int{0, 3, 240, 500} {
		right := modelBank(7, rising(n))
		bad := slices.Clone(right)
		for i := range bad {
			bad[i] = bad[i][:100]
		}
		for _, blocks := range [][][]byte{right, bad} {
			for _, gen := range noGens {
				decodeRefused(t, "no generation", gen, n, blocks, api.ErrArg)
			}
			for _, pages := range noPages {
				decodeRefused(t, "no pages", 7, pages, blocks, api.ErrArg)
				decodeRefused(t, "no pages and no generation", -1, pages, blocks, api.ErrArg)
			}
			decodeRefused(t, "a block too many", 7, n, append(slices.Clone(blocks), first()), api.ErrArg)
			decodeRefused(t, "a block too many", 7, n, append(slices.Clone(blocks), nil), api.ErrArg)
			for have := range len(blocks) {
				decodeRefused(t, "too few blocks", 7, n, blocks[:have], api.ErrArg)
			}
		}
	}
	decodeRefused(t, "one page more than fits", 7, 241, modelBank(7, rising(240)), api.ErrArg)
	decodeRefused(t, "one page fewer", 7, 240, modelBank(7, rising(241)), api.ErrArg)
	decodeRefused(t, "as many blocks for other pages", 7, 242, modelBank(7, rising(241)), api.ErrOther)
	decodeRefused(t, "a block of no pages", 7, 0, [][]byte{first()}, api.ErrArg)
	decodeRefused(t, "no blocks of a page", 7, 1, [][]byte{}, api.ErrArg)
	// Blocks for one page too many are as many as for the limit: it is refused by the number alone.
	decodeRefused(t, "too many pages", 7, 65537, make([][]byte, 274), api.ErrArg)
	decodeRefused(t, "the most pages", 7, 65536, make([][]byte, 274), api.ErrBlock)
	decodeRefused(t, "the most pages of too many blocks", 7, 65536, make([][]byte, 275), api.ErrArg)
}

// faulty is the block number i with the fault that Block tells so.
func faulty(b []byte, e api.Errno) []byte {
	switch e {
	case api.ErrBlock:
		return b[:511]
	case api.ErrSum:
		return turned(b, 511, 1)
	case api.ErrForm:
		return resealed(turned(b, 507, 1))
	case api.ErrOther:
		return resealed(turned(b, 1, 1))
	}
	return b
}

func TestP8_4Faults(t *testing.T) {
	all := []api.Errno{api.ErrBlock, api.ErrSum, api.ErrForm, api.ErrOther}
	counts := rising(1100)
	right := modelBank(7, counts)
	for at := range right {
		for _, e := range all {
			blocks := slices.Clone(right)
			blocks[at] = faulty(right[at], e)
			decodeRefused(t, "a fault in block "+strconv.Itoa(at), 7, 1100, blocks, e)
			for next := at + 1; next < len(right); next++ {
				for _, f := range all {
					two := slices.Clone(blocks)
					two[next] = faulty(right[next], f)
					decodeRefused(t, "faults in two blocks", 7, 1100, two, e)
				}
			}
		}
		for other := range at {
			blocks := slices.Clone(right)
			blocks[at], blocks[other] = blocks[other], blocks[at]
			decodeRefused(t, "blocks that are swapped", 7, 1100, blocks, api.ErrOther)
			blocks[at] = right[at]
			decodeRefused(t, "a block twice", 7, 1100, blocks, api.ErrOther)
		}
		blocks := slices.Clone(right)
		blocks[at] = modelBank(8, counts)[at]
		decodeRefused(t, "a block of another generation", 7, 1100, blocks, api.ErrOther)
		blocks[at] = modelBank(7, rising(1101))[at]
		decodeRefused(t, "a block of other pages", 7, 1100, blocks, api.ErrOther)
		blocks[at] = nil
		decodeRefused(t, "nil in place of a block", 7, 1100, blocks, api.ErrBlock)
	}
	decodes(t, "the bank as it was", 7, right, counts)
}

func TestP8_5ThereAndBack(t *testing.T) {
	r := draw.Numbers(85)
	for _, n := range append([]int{0}, sizes...) {
		for _, counts := range [][]int{rising(n), some(&r, n), make([]int, n), slices.Repeat([]int{65535}, n)} {
			gen := r.Below(mostGen + 1)
			decodes(t, "there and back", gen, encoded(t, gen, counts), counts)
		}
	}
}

// A block that is taken, of any counts, is the one that a bank with these has there.
func TestP8_5BackAndThere(t *testing.T) {
	r := draw.Numbers(86)
	for range 400 {
		gen, n := r.Below(mostGen+1), []int{1, 3, 239, 240, 241, 479, 500, 2000}[r.Below(8)]
		i := r.Below(modelBlocks(n))
		b := headBytes(uint64(gen), uint64(n), uint64(i))
		b = sealed(append(b, r.Bytes(2*min(240, n-240*i))...))
		part, e := bank.Block(gen, n, i, b)
		if e != api.OK {
			t.Fatalf("Block(%d, %d, %d) = %d", gen, n, i, e)
		}
		counts := some(&r, n)
		copy(counts[240*i:], part)
		if c := encoded(t, gen, counts)[i]; !bytes.Equal(b, c) {
			t.Fatalf("back and there: %x, want %x", c, b)
		}
	}
}

func TestP8_5AnotherByte(t *testing.T) {
	counts := rising(243)
	for i, b := range encoded(t, 1<<33+5, counts) {
		for at := range b {
			for turn := 1; turn < 256; turn += 1 + at%3 {
				refused(t, "another byte at "+strconv.Itoa(at), 1<<33+5, 243, i, turned(b, at, byte(turn)), api.ErrSum)
			}
		}
	}
}

func TestP8_5TakenForAnother(t *testing.T) {
	r := draw.Numbers(87)
	for range 3000 {
		gen, n := r.Below(mostGen), 1+r.Below(1500)
		i := r.Below(modelBlocks(n))
		b := modelBank(gen, rising(n))[i]
		taken(t, "the block", gen, n, i, b, rising(n)[240*i:min(n, 240*i+240)])
		refused(t, "another generation", gen+1, n, i, b, api.ErrOther)
		if g := r.Below(mostGen); g != gen {
			refused(t, "another generation", g, n, i, b, api.ErrOther)
		}
		if m := 240*i + 1 + r.Below(500); m != n {
			refused(t, "other pages", gen, m, i, b, api.ErrOther)
		}
		if k := r.Below(modelBlocks(n)); k != i {
			refused(t, "another number", gen, n, k, b, api.ErrOther)
		}
	}
}

func TestR3Lists(t *testing.T) {
	for _, none := range [][]int{nil, {}, make([]int, 0, 9)} {
		if blocks, e := bank.Encode(7, none); e != api.OK || len(blocks) != 0 {
			t.Errorf("Encode of none: %d blocks, %d", len(blocks), e)
		}
		encodeRefused(t, "no generation", -1, none, api.ErrArg)
	}
	for _, none := range [][][]byte{nil, {}, make([][]byte, 0, 9)} {
		decodes(t, "none", 0, none, nil)
		decodes(t, "none", mostGen, none, nil)
		decodeRefused(t, "none", mostGen+1, 0, none, api.ErrArg)
		decodeRefused(t, "none of 3 pages", 7, 3, none, api.ErrArg)
	}
	for _, none := range [][]byte{nil, {}, make([]byte, 0, 512)} {
		refused(t, "none", 7, 3, 0, none, api.ErrBlock)
		decodeRefused(t, "a block of none", 7, 3, [][]byte{none}, api.ErrBlock)
	}
}

// Answers do not hang on what was asked before, nor on who asks at the same time.
func TestR5SameAnswers(t *testing.T) {
	counts := rising(500)
	blocks := encoded(t, 7, counts)
	var all sync.WaitGroup
	for k := range 8 {
		all.Go(func() {
			for n := range 40 {
				bank.Encode(k, rising(n*k))
				if again, e := bank.Encode(7, counts); e != api.OK || !slices.EqualFunc(again, blocks, bytes.Equal) {
					t.Error("Encode answers something else")
				}
				if again, e := bank.Decode(7, 500, blocks); e != api.OK || !slices.Equal(again, counts) {
					t.Error("Decode answers something else")
				}
				if _, e := bank.Block(7, 500, k%4, blocks[0]); (e == api.OK) != (k%4 == 0) {
					t.Error("Block answers something else")
				}
			}
		})
	}
	all.Wait()
}
