package commit_test

import (
	"bytes"
	"encoding/binary"
	"hash/crc32"
	"slices"
	"testing"

	"coppice/api"
	"coppice/bank"
	"coppice/disk"
	"coppice/draw"
	"coppice/fsck"
	"coppice/grove"
	"coppice/page"
	"coppice/super"
	"coppice/vault"
)

// What is written, and what is opened, as the document tells it, slow and plain.

// act is a write into a block, or, of the block -1, a sync.
type act struct {
	block int
	bytes []byte
}

const noBlock = -1

func synced() act { return act{block: noBlock} }

func zeros(block int) act { return act{block, make([]byte, blockSize)} }

// plan is a plan of a config, by the words of the layout.
func plan(c api.Config) api.Plan {
	for pages := c.Blocks; ; pages-- {
		blocks := 0 // of a bank
		for blocks*perBlock < pages {
			blocks++
		}
		if 2+2*blocks+pages <= c.Blocks {
			return api.Plan{Pages: pages, Bank: blocks, First: 2 + 2*blocks}
		}
	}
}

// sealed is these bytes as a block: bytes 0 behind them, and the sum.
func sealed(b []byte) []byte {
	b = append(slices.Clone(b), make([]byte, 508-len(b))...)
	return binary.LittleEndian.AppendUint32(b, crc32.Checksum(b, crc32.MakeTable(crc32.Castagnoli)))
}

// superBlock is the block of a superblock, by the chapter that tells it.
func superBlock(s api.Super) []byte {
	little := binary.LittleEndian
	b := []byte{0x43, 0x4f, 0x50, 0x31}
	b = little.AppendUint64(b, uint64(s.Gen))
	b = append(little.AppendUint32(b, uint32(s.Config.Blocks)), byte(s.Config.Clones))
	b = little.AppendUint32(b, uint32(s.Config.Refs))
	b = append(little.AppendUint32(b, uint32(s.Next)), byte(len(s.Roots)))
	for _, r := range s.Roots {
		b = little.AppendUint32(b, uint32(r.Id))
		b = append(little.AppendUint32(b, uint32(r.Tree.Root)), byte(r.Tree.Height))
		b = little.AppendUint32(b, uint32(r.Tree.Items))
	}
	return sealed(b)
}

// bankBlocks is the blocks of a bank, by the chapter that tells them.
func bankBlocks(gen int, counts []int) [][]byte {
	little := binary.LittleEndian
	var l [][]byte
	for i := 0; i*perBlock < len(counts); i++ {
		b := little.AppendUint64([]byte{66}, uint64(gen))
		b = little.AppendUint32(b, uint32(i))
		b = little.AppendUint32(b, uint32(len(counts)))
		for _, c := range counts[i*perBlock : min(len(counts), (i+1)*perBlock)] {
			b = little.AppendUint16(b, uint16(c))
		}
		l = append(l, sealed(b))
	}
	return l
}

// bankActs is the writes of a bank of a generation.
func bankActs(p api.Plan, gen int, counts []int) []act {
	var l []act
	for i, b := range bankBlocks(gen, counts) {
		l = append(l, act{2 + gen%2*p.Bank + i, b})
	}
	return l
}

// modelFormat is all acts of a Format, one behind the other.
func modelFormat(c api.Config) []act {
	p := plan(c)
	l := []act{zeros(0), zeros(1), synced()}
	l = append(append(l, bankActs(p, 0, make([]int, p.Pages))...), synced())
	return append(l, act{0, superBlock(api.Super{Config: c, Next: 1})}, synced())
}

// modelWrite is all acts of a Write, of a vault that has what a store has.
func modelWrite(t *testing.T, s api.Super, store *grove.Store) []act {
	t.Helper()
	p, slot := plan(s.Config), s.Gen%2
	l := []act{zeros(slot), synced()}
	for n := 1; n <= p.Pages; n++ {
		if store.State(n) == fresh {
			b, e := page.Encode(n, s.Gen, store.On[n-1])
			equal(t, "page.Encode", e, 0)
			l = append(l, act{p.First + n - 1, b})
		}
	}
	l = append(append(l, bankActs(p, s.Gen, store.Counts)...), synced())
	return append(l, act{slot, superBlock(s)}, synced())
}

// lying is a disk as it is found: what lasts there, and what was written behind that.
type lying struct {
	blocks   [][]byte
	unsynced []act
}

// disk is such a disk, with power.
func (l lying) disk(t *testing.T) *disk.Disk {
	t.Helper()
	d := diskOf(t, l.blocks)
	for _, a := range l.unsynced {
		written(t, d, a.block, a.bytes)
	}
	return d
}

// did is such a disk behind these acts.
func (l lying) did(t *testing.T, acts []act) *disk.Disk {
	t.Helper()
	d := l.disk(t)
	for _, a := range acts {
		if a.block == noBlock {
			equal(t, "Sync", d.Sync(), 0)
		} else {
			written(t, d, a.block, a.bytes)
		}
	}
	return d
}

// keeps is which of n writes last, in so many ways of all kinds: all, none, each way, if
// there are few.
func keeps(r *draw.Numbers, n, most int) [][]bool {
	var l [][]bool
	if n < 12 && 1<<n <= most {
		for mask := range 1 << n {
			l = append(l, bits(n, mask))
		}
		return l
	}
	for len(l) < most {
		keep := make([]bool, n)
		often := 1 + r.Below(4)
		for k := range keep {
			keep[k] = len(l) == 0 || len(l) > 1 && r.Below(5) < often
		}
		l = append(l, keep)
	}
	return l
}

// bits is the lowest n bits of a number.
func bits(n, mask int) []bool {
	var l []bool
	for k := range n {
		l = append(l, mask>>k&1 == 1)
	}
	return l
}

// same: two disks are alike in all that can be seen of them.
func same(t *testing.T, what string, got, want *disk.Disk) {
	t.Helper()
	equal(t, what+": IsOn", got.IsOn(), want.IsOn())
	equalLists(t, what+": Unsynced", got.Unsynced(), want.Unsynced())
	w, s := got.Acts()
	writes, syncs := want.Acts()
	equal(t, what+": writes", w, writes)
	equal(t, what+": syncs", s, syncs)
	equal(t, what+": what lasts is alike", bytes.Equal(got.Image(), want.Image()), true)
	for i := range got.Blocks() {
		b, e := got.Read(i)
		c, f := want.Read(i)
		equal(t, what+": Read", e, f)
		equal(t, what+": the block is alike", bytes.Equal(b, c), true)
	}
}

// modelCandidates is the candidates of a disk.
func modelCandidates(d *disk.Disk) []api.Super {
	var l []api.Super
	for at := range 2 {
		b, _ := d.Read(at)
		s, e := super.Decode(b)
		if e != 0 || s.Gen%2 != at || s.Config.Blocks != d.Blocks() {
			continue
		}
		if len(l) == 1 && l[0].Gen < s.Gen {
			l = []api.Super{s, l[0]}
		} else {
			l = append(l, s)
		}
	}
	return l
}

// modelOpen is what is opened, as far as fsck tells it.
func modelOpen(d *disk.Disk) (api.Super, *vault.Vault, api.Errno) {
	if !d.IsOn() {
		return api.Super{}, nil, errDown
	}
	for _, s := range modelCandidates(d) {
		if v, _, e := fsck.Load(d, s); e == 0 {
			return s, v, 0
		}
	}
	return api.Super{}, nil, errCorrupt
}

// The models lay what the layers beneath lay.
func TestModelOfBlocks(t *testing.T) {
	r := draw.Numbers(2301)
	for range 300 {
		c := api.Config{Blocks: 8 + r.Below(1000), Clones: 1 + r.Below(16), Refs: 2 + r.Below(65534)}
		p, e := super.Plan(c)
		equal(t, "Plan", e, 0)
		equal(t, "the plan", plan(c), p)
		s := api.Super{Gen: r.Below(maxGen + 1), Config: c, Next: 5 + r.Below(maxId-4)}
		for k := range r.Below(min(c.Clones, 4) + 1) {
			s.Roots = append(s.Roots, api.Root{Id: k + 1, Tree: tree(1+r.Below(p.Pages), 1+r.Below(12), 1+r.Below(8*p.Pages))})
		}
		b, e := super.Encode(s)
		equal(t, "super.Encode", e, 0)
		equal(t, "the superblock", bytes.Equal(b, superBlock(s)), true)
		counts := make([]int, p.Pages)
		for k := range counts {
			counts[k] = r.Below(65536)
		}
		l, e := bank.Encode(s.Gen, counts)
		equal(t, "bank.Encode", e, 0)
		equal(t, "the bank", slices.EqualFunc(l, bankBlocks(s.Gen, counts), bytes.Equal), true)
	}
}
