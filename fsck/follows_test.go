package fsck_test

import (
	"fmt"
	"slices"
	"testing"

	"coppice/api"
	"coppice/disk"
	"coppice/draw"
	"coppice/fsck"
	"coppice/grove"
)

// P22.6: a disk from which Load takes a forest has nothing bad, and the report is that of
// Whole of the vault. (loads holds each forest of these tests against that; here many.)
func TestP22_6NothingBad(t *testing.T) {
	t.Parallel()
	r := draw.Numbers(841)
	for _, g := range grove.Trees(&r, 5) {
		w := grownWood(t, &r, g, 20, r.Below(8))
		f := lay(t, &r, w.v, w.trees)
		d := f.disk(t)
		v, report, e := fsck.Load(d, f.s)
		equal(t, "Load", e, 0)
		l, e := fsck.Bad(d, f.s)
		equal(t, "Bad", fmt.Sprint(l, e), fmt.Sprint([]int(nil), api.OK))
		again, e := fsck.Whole(v, f.s.Roots)
		equal(t, "Whole", fmt.Sprint(told(again), e), fmt.Sprint(told(report), api.OK))
	}
}

// window is a change of a block within 32 bits: bit k of mask turns the bit that many behind
// the first one.
type window struct {
	first int
	mask  uint32
}

// of is a block with that change.
func (w window) of(b []byte) []byte {
	b = slices.Clone(b)
	for k := range 32 {
		if at := w.first + k; w.mask>>k&1 == 1 && at < 8*blockSize {
			b[at/8] ^= 1 << (at % 8)
		}
	}
	return b
}

// someWindow is any such change.
func someWindow(r *draw.Numbers) window {
	return window{r.Below(8*blockSize - 31), []uint32{1, 1 << 31, 1<<31 | 1, 0xffffffff, uint32(r.Next()) | 1, uint32(r.Next()) | 1<<r.Below(32)}[r.Below(6)]}
}

// found: with this in the place of one block it is ErrCorrupt, and just that block is bad;
// behind it the block is as it was.
func found(t *testing.T, d *disk.Disk, f *lying, at int, w window) {
	t.Helper()
	written(t, d, at, w.of(f.blocks[at]))
	v, report, e := fsck.Load(d, f.s)
	if e != errCorrupt || v != nil || told(report) != nothing {
		t.Fatalf("%v in block %d: Load = %v, %s, %d", w, at, v, told(report), e)
	}
	l, e := fsck.Bad(d, f.s)
	if e != 0 || !slices.Equal(l, []int{at}) {
		t.Fatalf("%v in block %d: Bad = %v, %d", w, at, l, e)
	}
	written(t, d, at, f.blocks[at])
}

// synced lets all that was written last.
func synced(t *testing.T, d *disk.Disk) {
	t.Helper()
	equal(t, "Sync", d.Sync(), 0)
}

// P22.7: each bit of each block of a small forest, alone, and with others within 32 bits.
func TestP22_7EachBit(t *testing.T) {
	t.Parallel()
	r := draw.Numbers(842)
	x := newSmall(t)
	d := x.disk(t)
	for _, at := range x.own(x.counts) {
		for first := range 8 * blockSize {
			found(t, d, x.lying, at, window{first, 1})
			found(t, d, x.lying, at, window{first, 0xffffffff}) // at the end they are fewer
			found(t, d, x.lying, at, window{first, uint32(r.Next()) | 1})
		}
		synced(t, d)
	}
	tells(t, "behind it", d, x.s, 0)
}

// P22.7: any change within 32 bits of one block of the bank, or of a page whose count is
// above 0, of forests of any kind.
func TestP22_7AnyChange(t *testing.T) {
	t.Parallel()
	r := draw.Numbers(843)
	for range 60 {
		f, w := someLying(t, &r, []int{60, 260, 490}[r.Below(3)], 1+r.Below(20))
		d := f.disk(t)
		own := f.own(w.v.Counts())
		for _, at := range own {
			if r.Below(1+len(own)/20) == 0 || at < f.plan.First {
				for range 3 {
					found(t, d, f, at, someWindow(&r))
				}
				synced(t, d)
			}
		}
		_, _, e := loads(t, d, f.s)
		equal(t, "behind it", e, 0)
	}
}

// P22.7: whatever is written over the superblocks, the other bank, the blocks of pages whose
// count is 0, and the blocks behind the last page, changes neither answer: neither of what
// is whole, nor of what was turned.
func TestP22_7TheOtherBlocks(t *testing.T) {
	t.Parallel()
	r, met := draw.Numbers(844), met{}
	for range 60 {
		f, w := someLying(t, &r, []int{60, 240, 240, 300}[r.Below(4)], 1+r.Below(20))
		d, counts := f.disk(t), w.v.Counts()
		own, others := f.own(counts), f.others(counts)
		_, report, e := loads(t, d, f.s)
		equal(t, "Load", e, 0)
		for range 12 {
			for _, at := range others {
				if r.Below(3) == 0 {
					written(t, d, at, f.junk(t, &r, at))
					met[f.what(at)]++
				}
			}
			v, then, e := fsck.Load(d, f.s)
			equal(t, "Load behind it", fmt.Sprint(e, told(then)), fmt.Sprint(api.OK, told(report)))
			lasts(t, v, w.v)
			l, e := fsck.Bad(d, f.s)
			equal(t, "Bad behind it", fmt.Sprint(l, e), fmt.Sprint([]int(nil), api.OK))
			found(t, d, f, own[r.Below(len(own))], someWindow(&r))
			synced(t, d)
		}
	}
	met.wants(t, 10, "a superblock", "the other bank", "a page", "behind the last page")
}

// what is what lies in a block that is none of the forest.
func (f *lying) what(at int) string {
	switch {
	case at < 2:
		return "a superblock"
	case at < f.plan.First:
		return "the other bank"
	case at < f.plan.First+f.plan.Pages:
		return "a page"
	}
	return "behind the last page"
}

// P22.7: each block that is none of the forest is overwritten by itself, by each kind of
// block, those of the forest among them.
func TestP22_7EachOtherBlock(t *testing.T) {
	x := newSmall(t)
	d := x.disk(t)
	equalLists(t, "the others", x.others(x.counts), []int{0, 1, 2, 6, 7, 8, 9, 10, 11})
	for _, at := range x.others(x.counts) {
		for from := range x.blocks {
			written(t, d, at, x.blocks[from])
			tells(t, fmt.Sprintf("block %d is in block %d too", from, at), d, x.s, 0)
			for _, own := range x.own(x.counts) {
				found(t, d, x.lying, own, window{100, 1})
			}
		}
	}
}
