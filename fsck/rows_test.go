package fsck_test

import (
	"fmt"
	"testing"

	"coppice/api"
	"coppice/disk"
	"coppice/draw"
	"coppice/fsck"
	"coppice/super"
	"coppice/vault"
)

// The chapter's table of examples, row by row: of vaults.
func TestExamplesOfVaults(t *testing.T) {
	v, x := example(t)
	one := api.Report{Trees: 1, Pages: 3, Leaves: 2, Index: 1, Items: 8, Bytes: 16}
	taken(t, "Whole(v, t)", v, one, x)
	refused(t, "Whole(v, none)", v)
	refused(t, "Whole(v, t and t)", v, x, x)

	equal(t, "Keep", v.Keep(3), 0)
	two := api.Report{Trees: 2, Pages: 3, Leaves: 2, Index: 1, Items: 16, Bytes: 32}
	taken(t, "page 3 is kept once more: Whole(v, t and t)", v, two, x, x)
	two.Trees = 3
	taken(t, "Whole(v, t, t and the empty tree)", v, two, x, x, empty)
	refused(t, "Whole(v, t and {3, 2, 7})", v, x, tree(3, 2, 7))

	taken(t, "Whole of a vault whose pages are all free", newVault(t, 8, 9), api.Report{})
}

// exampleDisk is the chapter's disk: v, with only t, written in generation 1.
func exampleDisk(t *testing.T) (*disk.Disk, api.Super, *vault.Vault) {
	t.Helper()
	v, x := example(t)
	f := &lying{s: api.Super{Gen: 1, Config: api.Config{Blocks: 12, Clones: 4, Refs: 9}, Next: 2, Roots: roots(x)}}
	plan, e := super.Plan(f.s.Config)
	equal(t, "Plan", e, 0)
	f.plan = plan
	equal(t, "the plan", fmt.Sprint(plan), fmt.Sprint(api.Plan{Pages: 8, Bank: 1, First: 4}))
	f.blocks = make([][]byte, 12)
	for at := range f.blocks {
		f.blocks[at] = make([]byte, blockSize)
	}
	f.layBank(t, v.Counts())
	for n := 1; n <= 3; n++ {
		p, _ := v.Read(n)
		f.layPage(t, n, 1, p)
	}
	return f.disk(t), f.s, v
}

// written writes over a block of a disk.
func written(t *testing.T, d *disk.Disk, at int, b []byte) {
	t.Helper()
	equal(t, "Write", d.Write(at, b), 0)
}

// turned is a block with one bit turned.
func turned(t *testing.T, d *disk.Disk, at, bit int) []byte {
	t.Helper()
	b, e := d.Read(at)
	equal(t, "Read", e, 0)
	b[bit/8] ^= 1 << (bit % 8)
	return b
}

// tells: Load is refused, or not, and Bad is this.
func tells(t *testing.T, what string, d *disk.Disk, s api.Super, want api.Errno, blocks ...int) {
	t.Helper()
	_, _, e := loads(t, d, s)
	equal(t, "Load: "+what, e, want)
	l, e := bad(t, d, s)
	equal(t, "Bad: "+what, e, 0)
	equalLists(t, "Bad: "+what, l, blocks)
}

// The other rows: of disks.
func TestExamplesOfDisks(t *testing.T) {
	d, s, _ := exampleDisk(t)
	tells(t, "as it was laid", d, s, 0)
	v, report, e := fsck.Load(d, s)
	equal(t, "Load", e, 0)
	equal(t, "the report", told(report), told(api.Report{Trees: 1, Pages: 3, Leaves: 2, Index: 1, Items: 8, Bytes: 16}))
	equalLists(t, "the counts", v.Counts(), []int{1, 1, 1, 0, 0, 0, 0, 0})

	written(t, d, 5, turned(t, d, 5, 77))
	tells(t, "a bit of block 5 is turned", d, s, errCorrupt, 5)
	written(t, d, 6, make([]byte, blockSize))
	tells(t, "block 6 is overwritten by zeros as well", d, s, errCorrupt, 6)
	written(t, d, 3, turned(t, d, 3, 4095))
	tells(t, "a bit of block 3 is turned as well", d, s, errCorrupt, 3, 6)

	d, s, _ = exampleDisk(t)
	s.Gen = 0
	tells(t, "a superblock with the Gen 0", d, s, errCorrupt, 2, 6)
}

// The same disk, with what was written and not synced: what a block shows counts.
func TestExamplesUnsynced(t *testing.T) {
	d, s, _ := exampleDisk(t)
	was := turned(t, d, 5, 0)
	was[0] ^= 1
	written(t, d, 5, make([]byte, blockSize))
	tells(t, "zeros that were not synced", d, s, errCorrupt, 5)
	written(t, d, 5, was)
	tells(t, "what was there, not synced", d, s, 0)
	d.Off()
	d.On([]bool{true})
	tells(t, "the zeros last", d, s, errCorrupt, 5)
}

// A disk of bytes 0, and of any bytes, with superblocks that lead to nothing.
func TestExamplesOfNothing(t *testing.T) {
	r := draw.Numbers(801)
	for _, blocks := range []int{8, 12, 245, 500} {
		s := api.Super{Config: api.Config{Blocks: blocks, Clones: 2, Refs: 2}, Next: 1}
		plan, _ := super.Plan(s.Config)
		for gen := range 2 {
			s.Gen = gen
			var bank []int
			for i := range plan.Bank {
				bank = append(bank, 2+gen*plan.Bank+i)
			}
			d, _ := disk.New(blocks)
			tells(t, "bytes 0", d, s, errCorrupt, bank...)
			d, _ = disk.From(r.Bytes(blocks * blockSize))
			tells(t, "any bytes", d, s, errCorrupt, bank...)
		}
	}
}
