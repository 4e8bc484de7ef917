package bank_test

import (
	"encoding/binary"
	"slices"
	"strconv"
	"testing"

	"coppice/api"
	"coppice/bank"
	"coppice/draw"
)

func TestExamplesOfBlock(t *testing.T) {
	taken(t, "the block", 7, 3, 0, first(), []int{1, 0, 258})
	refused(t, "block 1 of one", 7, 3, 1, first(), api.ErrArg)
	refused(t, "511 bytes of it", 7, 3, 0, first()[:511], api.ErrBlock)
	other := turned(first(), 0, 1)
	refused(t, "another first byte", 7, 3, 0, other, api.ErrSum)
	refused(t, "another first byte and a right sum", 7, 3, 0, resealed(other), api.ErrForm)
}

func TestP8_3EachBlock(t *testing.T) {
	for _, n := range sizes {
		counts := rising(n)
		for _, gen := range []int{0, 9, mostGen} {
			for i, b := range modelBank(gen, counts) {
				taken(t, "block "+strconv.Itoa(i), gen, n, i, b, counts[240*i:min(n, 240*i+240)])
			}
		}
	}
}

func TestP8_3Arguments(t *testing.T) {
	noSum := turned(first(), 0, 1)
	wrong := [][]byte{first(), noSum, resealed(noSum), first()[:511], nil, {}, make([]byte, 1024)}
	for _, b := range wrong {
		for _, gen := range noGens {
			refused(t, "no generation", gen, 3, 0, b, api.ErrArg)
		}
		for _, pages := range noPages {
			for _, i := range []int{0, 1, 273} {
				refused(t, "no pages", 7, pages, i, b, api.ErrArg)
			}
		}
		for _, i := range []int{-1, -2, -240, 1, 2, 1 << 32, greatest, least} {
			refused(t, "no number", 7, 3, i, b, api.ErrArg)
			refused(t, "no number and no generation", -1, 3, i, b, api.ErrArg)
			refused(t, "no number and no pages", 7, -3, i, b, api.ErrArg)
			refused(t, "a block of no pages", 7, 0, i, b, api.ErrArg)
		}
		refused(t, "a block of no pages", 7, 0, 0, b, api.ErrArg)
	}
	for _, n := range sizes {
		blocks := modelBank(7, rising(n))
		last := len(blocks) - 1
		refused(t, "behind the last", 7, n, last+1, blocks[last], api.ErrArg)
		refused(t, "ahead of the first", 7, n, -1, blocks[0], api.ErrArg)
	}
}

func TestP8_3Lengths(t *testing.T) {
	long := append(first(), make([]byte, 1<<17)...)
	for _, n := range lengths {
		what := "a length of " + strconv.Itoa(n)
		refused(t, what, 7, 3, 0, long[:n], api.ErrBlock)
		refused(t, what, 7, 3, 0, make([]byte, n), api.ErrBlock)
		refused(t, what, 8, 4, 0, long[:n], api.ErrBlock)
		refused(t, what, 7, 241, 1, long[:n], api.ErrBlock)
	}
	refused(t, "nil", 7, 3, 0, nil, api.ErrBlock)
}

func TestP8_3Sum(t *testing.T) {
	b := first()
	for at := 508; at < 512; at++ {
		for x := 1; x < 256; x++ {
			refused(t, "another sum", 7, 3, 0, turned(b, at, byte(x)), api.ErrSum)
		}
	}
	swapped := slices.Clone(b)
	slices.Reverse(swapped[508:])
	refused(t, "the sum with its highest byte first", 7, 3, 0, swapped, api.ErrSum)
	refused(t, "zeros", 7, 3, 0, make([]byte, 512), api.ErrSum)
	// With the sum wrong, no other fault is told.
	for _, at := range []int{0, 1, 8, 9, 12, 13, 16, 23, 507} {
		c := turned(resealed(turned(b, at, 1)), 511, 1)
		refused(t, "another sum and another byte "+strconv.Itoa(at), 7, 3, 0, c, api.ErrSum)
	}
}

func TestP8_3FirstByte(t *testing.T) {
	for x := range 256 {
		b := first()
		b[0] = byte(x)
		if x == 66 {
			taken(t, "the letter", 7, 3, 0, resealed(b), []int{1, 0, 258})
			continue
		}
		refused(t, "first byte "+strconv.Itoa(x), 7, 3, 0, resealed(b), api.ErrForm)
		for _, at := range []int{1, 8, 9, 12, 13, 16, 23, 507} {
			refused(t, "first byte "+strconv.Itoa(x)+" and another byte", 7, 3, 0, resealed(turned(b, at, 1)), api.ErrForm)
		}
	}
}

// Each of the three numbers with each of its bits turned, alone and with a byte that
// is not 0 behind the counts.
func TestP8_3Other(t *testing.T) {
	counts := rising(500)
	for i, b := range modelBank(1<<32+7, counts) {
		for bit := range 128 {
			c := resealed(turned(b, 1+bit/8, 1<<(bit%8)))
			what := "block " + strconv.Itoa(i) + " with bit " + strconv.Itoa(bit) + " turned"
			refused(t, what, 1<<32+7, 500, i, c, api.ErrOther)
			refused(t, what, 1<<32+7, 500, i, resealed(turned(c, 507, 1)), api.ErrOther)
		}
		for _, g := range []int{0, 1, 7, 1<<32 + 6, 1<<32 + 8, mostGen} {
			refused(t, "another generation", g, 500, i, b, api.ErrOther)
		}
		for _, pages := range []int{481, 499, 501, 720, 721, mostPages} {
			refused(t, "other pages", 1<<32+7, pages, i, b, api.ErrOther)
		}
		for k := range 3 {
			if k != i {
				refused(t, "another number", 1<<32+7, 500, k, b, api.ErrOther)
			}
		}
	}
}

// Numbers that no bank says: beyond all limits, and such that agree in their lowest
// bytes alone.
func TestP8_3NumbersInTheBlock(t *testing.T) {
	for _, gen := range []uint64{0, 6, 8, mostGen + 7, mostGen + 1, 7 | 1<<63, 7 | 1<<32, 7 << 8, 1<<64 - 1} {
		b := first()
		binary.LittleEndian.PutUint64(b[1:], gen)
		refused(t, "told generation "+strconv.FormatUint(gen, 10), 7, 3, 0, resealed(b), api.ErrOther)
	}
	for _, told := range []uint32{1, 2, 1 << 8, 1 << 16, 1 << 24, 1 << 31, 1<<32 - 1} {
		b := first()
		binary.LittleEndian.PutUint32(b[9:], told)
		refused(t, "told number "+strconv.Itoa(int(told)), 7, 3, 0, resealed(b), api.ErrOther)
		b = first()
		binary.LittleEndian.PutUint32(b[13:], told^3)
		refused(t, "told pages "+strconv.Itoa(int(told^3)), 7, 3, 0, resealed(b), api.ErrOther)
	}
}

// Each byte between the counts and the sum, of a last block and of full ones.
func TestP8_3BytesBehindTheCounts(t *testing.T) {
	for _, n := range []int{1, 3, 239, 240, 241, 300, 480, 500} {
		for i, b := range modelBank(7, rising(n)) {
			end := 17 + 2*min(240, n-240*i)
			for at := end; at < 508; at++ {
				for _, turn := range []byte{1, 128, 255} {
					refused(t, "byte "+strconv.Itoa(at)+" of block "+strconv.Itoa(i)+" of "+strconv.Itoa(n), 7, n, i, resealed(turned(b, at, turn)), api.ErrForm)
				}
			}
			refused(t, "two such bytes", 7, n, i, resealed(turned(turned(b, end, 9), 507, 9)), api.ErrForm)
			if at := end - 1; at >= 17 { // the last byte of the counts is none of them
				counts, e := bank.Block(7, n, i, resealed(turned(b, at, 1)))
				if e != api.OK || len(counts) != min(240, n-240*i) {
					t.Fatalf("byte %d of block %d of %d: %d", at, i, n, e)
				}
			}
		}
	}
}

// Blocks with up to four faults, and any arguments near them, against the model.
func TestP8_3AnyBlock(t *testing.T) {
	r := draw.Numbers(83)
	for range 30000 {
		gen, n := gens[r.Below(len(gens))], []int{1, 3, 240, 241, 500, 65536}[r.Below(6)]
		i := r.Below(modelBlocks(n))
		b := headBytes(uint64(gen), uint64(n), uint64(i))
		b = sealed(append(b, r.Bytes(2*min(240, n-240*i))...))
		for range r.Below(4) {
			at := []int{0, 1 + r.Below(8), 9 + r.Below(4), 13 + r.Below(4), r.Below(508), 507}[r.Below(6)]
			b = resealed(turned(b, at, byte(1)<<r.Below(8)))
		}
		switch r.Below(8) {
		case 0:
			b = turned(b, r.Below(512), 4)
		case 1:
			b = b[:r.Below(512)]
		}
		gen, n, i = nearby(&r, gen), nearby(&r, n), nearby(&r, i)
		want, e := modelBlock(gen, n, i, b)
		if counts, got := bank.Block(gen, n, i, b); got != e || !slices.Equal(counts, want) {
			t.Fatalf("Block(%d, %d, %d, %x) = %v, %d; want %v, %d", gen, n, i, b, counts, got, want, e)
		}
	}
}

// nearby is mostly the number itself, and else one beside it or far off.
func nearby(r *draw.Numbers, x int) int {
	switch r.Below(24) {
	case 0:
		return x + 1
	case 1:
		return x - 1
	case 2:
		return -x
	case 3:
		return []int{0, greatest, least, mostPages, mostGen, 1 << 32}[r.Below(6)]
	}
	return x
}
