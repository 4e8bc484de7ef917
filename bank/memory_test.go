package bank_test

import (
	"bytes"
	"slices"
	"testing"

	"coppice/api"
	"coppice/bank"
)

// What fills the spare room of lists.
const (
	markCount = -77
	markByte  = 0xC3
	spare     = 600
)

// roomyCounts is the list with spare room behind it, all of it marked.
func roomyCounts(l []int) []int {
	return append(slices.Clone(l), slices.Repeat([]int{markCount}, spare)...)[:len(l)]
}

func roomyBytes(b []byte) []byte {
	return append(slices.Clone(b), bytes.Repeat([]byte{markByte}, spare)...)[:len(b)]
}

func roomyBlocks(blocks [][]byte) [][]byte {
	var all [][]byte
	for _, b := range blocks {
		all = append(all, roomyBytes(b))
	}
	return append(all, []byte("behind"), []byte("behind"))[:len(blocks)]
}

// countsUntouched: is the list as it was, its spare room too?
func countsUntouched(l, was []int) bool {
	return slices.Equal(l[:len(was)+spare], append(slices.Clone(was), slices.Repeat([]int{markCount}, spare)...))
}

func bytesUntouched(b, was []byte) bool {
	return bytes.Equal(b[:len(was)+spare], append(slices.Clone(was), bytes.Repeat([]byte{markByte}, spare)...))
}

func blocksUntouched(blocks, was [][]byte) bool {
	same := len(blocks) == len(was)
	for i := range was {
		same = same && bytesUntouched(blocks[i], was[i])
	}
	for _, b := range blocks[len(was) : len(was)+2] {
		same = same && string(b) == "behind"
	}
	return same
}

// spoilCounts turns a list, its spare room too; so do the others.
func spoilCounts(l []int) {
	l = l[:cap(l)]
	for i := range l {
		l[i] ^= 0x5A5A
	}
}

func spoilBytes(b []byte) {
	b = b[:cap(b)]
	for i := range b {
		b[i] ^= 0xA5
	}
}

func spoilBlocks(blocks [][]byte) {
	blocks = blocks[:cap(blocks)]
	for i := range blocks {
		spoilBytes(blocks[i])
		blocks[i] = nil
	}
}

func TestP8_6Encode(t *testing.T) {
	for _, n := range []int{0, 1, 3, 239, 240, 241, 500} {
		counts := rising(n)
		in := roomyCounts(counts)
		blocks, e := bank.Encode(7, in)
		if e != api.OK || !countsUntouched(in, counts) {
			t.Fatalf("of %d counts: %d, or what was handed in is changed", n, e)
		}
		spoilCounts(in)
		if !slices.EqualFunc(blocks, modelBank(7, counts), bytes.Equal) {
			t.Fatalf("of %d counts: the blocks hang on memory of the counts", n)
		}
	}
	for _, c := range []struct {
		gen  int
		l    []int
		want api.Errno
	}{{-1, rising(3), api.ErrArg}, {0, make([]int, 65537), api.ErrMany}, {0, []int{1, -1, 2}, api.ErrRefs}} {
		in := roomyCounts(c.l)
		if _, e := bank.Encode(c.gen, in); e != c.want || !countsUntouched(in, c.l) {
			t.Errorf("with an error: %d, want %d, or what was handed in is changed", e, c.want)
		}
	}
}

func TestP8_6Block(t *testing.T) {
	counts := rising(500)
	for i, b := range modelBank(7, counts) {
		want := counts[240*i : min(500, 240*i+240)]
		for _, c := range []struct {
			gen int
			b   []byte
			e   api.Errno
		}{{7, b, api.OK}, {-1, b, api.ErrArg}, {8, b, api.ErrOther}, {7, b[:511], api.ErrBlock}, {7, turned(b, 40, 1), api.ErrSum}, {7, resealed(turned(b, 507, 1)), api.ErrForm}} {
			in := roomyBytes(c.b)
			got, e := bank.Block(c.gen, 500, i, in)
			if e != c.e || !bytesUntouched(in, c.b) {
				t.Fatalf("block %d: %d, want %d, or what was handed in is changed", i, e, c.e)
			}
			spoilBytes(in)
			if e == api.OK && !slices.Equal(got, want) {
				t.Fatalf("block %d: the counts hang on memory of the block", i)
			}
		}
	}
}

func TestP8_6Decode(t *testing.T) {
	for _, n := range []int{0, 3, 240, 241, 500} {
		counts := rising(n)
		right := modelBank(7, counts)
		for _, gen := range []int{7, 8, -1} {
			in := roomyBlocks(right)
			got, e := bank.Decode(gen, n, in)
			if !blocksUntouched(in, right) {
				t.Fatalf("of %d pages: what was handed in is changed", n)
			}
			spoilBlocks(in)
			if gen == 7 && (e != api.OK || !slices.Equal(got, counts)) {
				t.Fatalf("of %d pages: %d, or the counts hang on memory of the blocks", n, e)
			}
		}
		in := roomyBlocks(right)
		if n > 0 {
			spoilBytes(in[len(in)-1])
			was := slices.Clone(in[len(in)-1][:cap(in[len(in)-1])])
			if _, e := bank.Decode(7, n, in); e != api.ErrSum || !bytes.Equal(was, in[len(in)-1][:cap(in[len(in)-1])]) {
				t.Fatalf("of %d pages: %d, or a block that is refused is changed", n, e)
			}
		}
	}
}

// No two blocks of one bank share memory, not even in their spare room.
func TestP8_6BlocksOfOneBank(t *testing.T) {
	blocks := encoded(t, 7, rising(1000))
	all := func(b []byte) []byte { return b[:cap(b)] }
	var before [][]byte
	for _, b := range blocks {
		before = append(before, slices.Clone(all(b)))
	}
	for i := range blocks {
		spoilBytes(blocks[i])
		for k := range blocks {
			if k != i && !bytes.Equal(all(blocks[k]), before[k]) {
				t.Fatalf("blocks %d and %d share memory", i, k)
			}
		}
		spoilBytes(blocks[i])
	}
}

func TestP8_6TwoAnswers(t *testing.T) {
	counts := rising(500)
	want := modelBank(7, counts)
	a, b := encoded(t, 7, counts), encoded(t, 7, counts)
	spoilBlocks(a)
	if !slices.EqualFunc(b, want, bytes.Equal) {
		t.Error("two banks share memory")
	}
	l, _ := bank.Decode(7, 500, want)
	m, _ := bank.Decode(7, 500, want)
	spoilCounts(l)
	if !slices.Equal(m, counts) {
		t.Error("two lists of all counts share memory")
	}
	for i := range want {
		l, _ := bank.Block(7, 500, i, want[i])
		m, _ := bank.Block(7, 500, i, want[i])
		spoilCounts(l)
		if !slices.Equal(m, counts[240*i:min(500, 240*i+240)]) {
			t.Errorf("two lists of counts of block %d share memory", i)
		}
	}
	decodes(t, "behind answers that were turned", 7, want, counts)
	if again := encoded(t, 7, counts); !slices.EqualFunc(again, want, bytes.Equal) {
		t.Error("Encode answers something else behind answers that were turned")
	}
}
