package bank_test

import (
	"bytes"
	"slices"
	"strconv"
	"testing"

	"coppice/api"
	"coppice/bank"
	"coppice/draw"
)

func TestExamplesOfBlocks(t *testing.T) {
	for _, c := range [][2]int{{-3, 0}, {0, 0}, {1, 1}, {240, 1}, {241, 2}} {
		if n := bank.Blocks(c[0]); n != c[1] {
			t.Errorf("Blocks(%d) = %d, want %d", c[0], n, c[1])
		}
	}
}

func TestP8_1Blocks(t *testing.T) {
	for _, n := range []int{0, -1, -239, -240, -241, -mostPages, least, least + 1, least + 240} {
		if got := bank.Blocks(n); got != 0 {
			t.Errorf("Blocks(%d) = %d", n, got)
		}
	}
	for n := range 2*mostPages + 3 {
		if got := bank.Blocks(n); got != modelBlocks(n) {
			t.Fatalf("Blocks(%d) = %d, want %d", n, got, modelBlocks(n))
		}
	}
	for _, k := range []int{1, 2, 273, 274, 1 << 20, 1 << 40, greatest / 240} {
		for _, c := range [][2]int{{240*k - 1, k}, {240 * k, k}, {240*k + 1, k + 1}} {
			if got := bank.Blocks(c[0]); got != c[1] {
				t.Errorf("Blocks(%d) = %d, want %d", c[0], got, c[1])
			}
		}
	}
	for off := range 300 { // 2^63 - 1 is 240 * 38430716820228232 + 127
		want := 38430716820228233
		if off > 126 {
			want--
		}
		if got := bank.Blocks(greatest - off); got != want {
			t.Errorf("Blocks(the greatest int - %d) = %d, want %d", off, got, want)
		}
	}
}

// first is the block of the chapter's table of examples, byte by byte.
func first() []byte {
	b := []byte{0x42, 0x07, 0, 0, 0, 0, 0, 0, 0, 0, 0, 0, 0, 0x03, 0, 0, 0, 0x01, 0x00, 0x00, 0x00, 0x02, 0x01}
	return sealed(b)
}

func TestExamplesOfEncode(t *testing.T) {
	if blocks, e := bank.Encode(0, nil); len(blocks) != 0 || e != api.OK {
		t.Errorf("of no counts: %d blocks, %d", len(blocks), e)
	}
	blocks := encoded(t, 7, []int{1, 0, 258})
	if len(blocks) != 1 || len(blocks[0]) != 512 {
		t.Fatalf("%d blocks", len(blocks))
	}
	for i, x := range first() {
		if blocks[0][i] != x {
			t.Errorf("byte %d is %02x, want %02x", i, blocks[0][i], x)
		}
	}
	encodeRefused(t, "no generation", -1, []int{-1}, api.ErrArg)
	encodeRefused(t, "no count", 0, []int{65536}, api.ErrRefs)
	encodeRefused(t, "too many", 0, make([]int, 65537), api.ErrMany)
}

// Blocks with more than one byte in each of their numbers, written out.
func TestP8_2Bytes(t *testing.T) {
	for _, c := range []struct {
		gen, pages, i int
		at, count     int
		head          string
	}{
		{0x0807060504, 241, 1, 240, 0x0201, "B\x04\x05\x06\x07\x08\x00\x00\x00\x01\x00\x00\x00\xf1\x00\x00\x00\x01\x02\x00"},
		{mostGen, 65536, 258, 61920, 65535, "B\x00\x00\x00\x00\x00\x01\x00\x00\x02\x01\x00\x00\x00\x00\x01\x00\xff\xff\x00"},
		{1, 65535, 273, 65520, 256, "B\x01\x00\x00\x00\x00\x00\x00\x00\x11\x01\x00\x00\xff\xff\x00\x00\x00\x01\x00"},
	} {
		counts := make([]int, c.pages)
		counts[c.at] = c.count
		b := encoded(t, c.gen, counts)[c.i]
		if want := sealed([]byte(c.head)); !bytes.Equal(b, want) {
			t.Errorf("block %d of %d: %x, want %x", c.i, c.pages, b, want)
		}
	}
}

func TestP8_2Encode(t *testing.T) {
	r := draw.Numbers(82)
	for _, n := range append([]int{0}, sizes...) {
		for _, gen := range []int{0, mostGen, r.Below(mostGen)} {
			for _, counts := range [][]int{rising(n), some(&r, n), make([]int, n)} {
				blocks, want := encoded(t, gen, counts), modelBank(gen, counts)
				for i := range want {
					if len(blocks[i]) != 512 || !bytes.Equal(blocks[i], want[i]) {
						t.Fatalf("block %d of %d counts: %x, want %x", i, n, blocks[i], want[i])
					}
				}
			}
		}
	}
}

func TestP8_2Generations(t *testing.T) {
	for _, counts := range [][]int{nil, {5}, rising(241)} {
		for _, gen := range gens {
			blocks, want := encoded(t, gen, counts), modelBank(gen, counts)
			if !slices.EqualFunc(blocks, want, bytes.Equal) {
				t.Errorf("Encode(%d, %d counts) = %x, want %x", gen, len(counts), blocks, want)
			}
		}
		for _, gen := range noGens {
			encodeRefused(t, "no generation", gen, counts, api.ErrArg)
		}
	}
}

var noCounts = []int{-1, -2, -65535, -65536, 65536, 65537, 2 * 65536, 1 << 32, greatest, least}

func TestP8_2Counts(t *testing.T) {
	for _, n := range []int{1, 2, 3, 240, 241, 480, 500, 65536} {
		for _, at := range []int{0, n / 2, n - 1} {
			for _, c := range []int{0, 1, 255, 256, 65534, 65535} {
				counts := rising(n)
				counts[at] = c
				if blocks := encoded(t, 3, counts); !slices.EqualFunc(blocks, modelBank(3, counts), bytes.Equal) {
					t.Fatalf("count %d of %d being %d: other blocks", at, n, c)
				}
			}
			for _, c := range noCounts {
				counts := rising(n)
				counts[at] = c
				encodeRefused(t, "count "+strconv.Itoa(at)+" being "+strconv.Itoa(c), 3, counts, api.ErrRefs)
			}
		}
	}
}

func TestP8_2OrderOfErrors(t *testing.T) {
	encoded(t, 0, make([]int, 65536))
	for _, n := range []int{65537, 65538, 65760, 65761, 2 * 65536} {
		for _, c := range append([]int{0, 65535}, noCounts...) {
			for _, at := range []int{0, n / 2, 65535, n - 1} {
				counts := make([]int, n)
				counts[at] = c
				encodeRefused(t, "too many", 0, counts, api.ErrMany)
				encodeRefused(t, "too many", mostGen, counts, api.ErrMany)
				encodeRefused(t, "too many and no generation", -1, counts, api.ErrArg)
				encodeRefused(t, "too many and no generation", mostGen+1, counts, api.ErrArg)
			}
		}
	}
	for _, gen := range noGens {
		for _, c := range noCounts {
			encodeRefused(t, "no count and no generation", gen, []int{1, c, 1}, api.ErrArg)
		}
	}
	encodeRefused(t, "two counts", 0, []int{-1, 65536}, api.ErrRefs)
}
