package commit_test

import (
	"fmt"
	"testing"

	"coppice/api"
	"coppice/commit"
	"coppice/disk"
	"coppice/draw"
	"coppice/vault"
	"coppice/view"
)

// format is a Format that is held against what it must answer.
func format(t *testing.T, d *disk.Disk, c api.Config) api.Errno {
	t.Helper()
	s, v, e := commit.Format(d, c)
	if e != 0 {
		equal(t, "the superblock beside an error", told(s), noSuper)
		equal(t, "no vault beside an error", v == nil, true)
		return e
	}
	equal(t, "the superblock", told(s), told(api.Super{Config: c, Next: 1}))
	isNew(t, v, c)
	return e
}

// isNew: a vault is that of the empty forest.
func isNew(t *testing.T, v *vault.Vault, c api.Config) {
	t.Helper()
	equal(t, "Len", v.Len(), plan(c).Pages)
	equal(t, "Refs", v.Refs(), c.Refs)
	equal(t, "free pages", v.Tally(free), v.Len())
	equalLists(t, "Counts", v.Counts(), make([]int, v.Len()))
	equal(t, "Undo(1)", v.Undo(1), false)
}

// wrongConfigs is configs that may not be; each is right but for one thing.
func wrongConfigs(c api.Config) []api.Config {
	var l []api.Config
	for _, n := range []int{lowest, -1, 0, 7, maxBlocks + 1, 1<<32 + c.Blocks, greatest} {
		x := c
		x.Blocks = n
		l = append(l, x)
	}
	for _, n := range []int{lowest, -1, 0, 17, 1<<8 + 1, 1<<32 + 1, greatest} {
		x := c
		x.Clones = n
		l = append(l, x)
	}
	for _, n := range []int{lowest, -1, 0, 1, 65536, 1<<16 + 2, 1<<32 + 2, greatest} {
		x := c
		x.Refs = n
		l = append(l, x)
	}
	return append(l, api.Config{}, api.Config{Blocks: c.Blocks}, api.Config{Clones: c.Clones, Refs: c.Refs})
}

// P23.1: what is refused: a config that may not be, one of another number of blocks, and then
// a disk without power. Nothing is written, with an alarm neither, nor is it nearer.
func TestP23_1Errors(t *testing.T) {
	r := draw.Numbers(2311)
	right := []api.Config{{Blocks: 12, Clones: 1, Refs: 2}, {Blocks: 12, Clones: 16, Refs: 65535}}
	for _, isOn := range []bool{true, false} {
		for _, acts := range []int{-1, 0, 3} {
			d := someDisk(t, &r, right[0]).disk(t)
			d.Arm(acts)
			if !isOn {
				d.Off()
			}
			refused := func(c api.Config, want api.Errno) {
				t.Helper()
				unwritten(t, d, func() { equal(t, fmt.Sprintf("Format(%v)", c), format(t, d, c), want) })
			}
			for _, c := range right {
				for _, wrong := range wrongConfigs(c) {
					refused(wrong, errArg)
				}
				for _, blocks := range []int{8, 11, 13, 24, maxBlocks} {
					c.Blocks = blocks
					refused(c, errArg)
				}
			}
			if !isOn {
				refused(right[0], errDown)
				refused(right[1], errDown)
				continue
			}
			for range acts {
				equal(t, "Sync", d.Sync(), 0)
			}
			if acts >= 0 {
				equal(t, "the act at which the power fails", d.Sync(), errDown)
			}
		}
	}
}

// P23.1: what is written, in which order, with the power failing at each act in turn, on
// disks of all kinds.
func TestP23_1EachAct(t *testing.T) {
	t.Parallel()
	r := draw.Numbers(2312)
	for _, c := range []api.Config{
		{Blocks: 8, Clones: 1, Refs: 2}, {Blocks: 8, Clones: 16, Refs: 65535}, exampleConfig, {Blocks: 244, Clones: 3, Refs: 5},
		{Blocks: 245, Clones: 3, Refs: 5}, {Blocks: 246, Clones: 3, Refs: 5}, {Blocks: 247, Clones: 3, Refs: 5}, {Blocks: 730, Clones: 2, Refs: 300},
	} {
		d := newDisk(t, c.Blocks)
		for _, l := range []lying{{blocks: blocksOf(d)}, someDisk(t, &r, c), someDisk(t, &r, c), someDisk(t, &r, c)} {
			followed(t, &r, fmt.Sprintf("Format(%v)", c), l, modelFormat(c), func(d *disk.Disk) api.Errno { return format(t, d, c) })
		}
	}
}

// P23.1: the greatest disk.
func TestP23_1Greatest(t *testing.T) {
	t.Parallel()
	c := api.Config{Blocks: maxBlocks, Clones: 16, Refs: 65535}
	d := newDisk(t, maxBlocks)
	equal(t, "Format", format(t, d, c), 0)
	l := lying{blocks: blocksOf(newDisk(t, maxBlocks))}
	same(t, "Format", d, l.did(t, modelFormat(c)))
	acts(t, d, 2+271+1, 3)
	s, v, e := commit.Open(d)
	equal(t, "Open", e, 0)
	equal(t, "the superblock", told(s), told(api.Super{Config: c, Next: 1}))
	isNew(t, v, c)
}

// P23.7: behind a Format the empty forest is opened, whatever lay there.
func TestP23_7WhateverLayThere(t *testing.T) {
	t.Parallel()
	r, met := draw.Numbers(2371), met{}
	for range 150 {
		c := someConfig(&r, []int{4, 20, 60, 240}[r.Below(4)])
		d := someDisk(t, &r, c).disk(t)
		s, _, e := modelOpen(d)
		met[fmt.Sprintf("Open: %d, generation %d", e, min(s.Gen, 1))]++
		equal(t, "Format", format(t, d, c), 0)
		empty := api.Super{Config: c, Next: 1}
		for range 2 {
			candidates(t, d, empty)
			isNew(t, opens(t, d, empty), c)
			d.Off()
			d.On([]bool{true, true})
		}
		other := c
		other.Clones, other.Refs = 16, 3
		equal(t, "Format again", format(t, d, other), 0)
		isNew(t, opens(t, d, api.Super{Config: other, Next: 1}), other)
	}
	met.wants(t, 10, "Open: 0, generation 0", "Open: 0, generation 1", "Open: 18, generation 0")
}

// without is the blocks of a disk, with bytes 0 in some.
func without(blocks [][]byte, at ...int) [][]byte {
	var l [][]byte
	for k, b := range blocks {
		for _, x := range at {
			if k == x {
				b = make([]byte, blockSize)
			}
		}
		l = append(l, b)
	}
	return l
}

// toldOpen is what Open answers, as a text.
func toldOpen(d *disk.Disk) string {
	s, v, e := commit.Open(d)
	if e != 0 {
		return fmt.Sprint("error ", int(e))
	}
	text := told(s) + fmt.Sprint(v.Refs(), v.Counts(), v.Tally(held), v.Tally(free))
	for n, p := range v.Pages(held) {
		text += fmt.Sprint("; ", n, " ") + view.Page(p)
	}
	return text
}

// P23.7: if the power fails within a Format, the empty forest is opened, just if its
// superblock lasts; else what is opened of the disk as it lay there, with bytes 0 in the
// blocks into which they were written and lasted there.
func TestP23_7ThePowerFails(t *testing.T) {
	t.Parallel()
	r, met := draw.Numbers(2372), met{}
	for range 40 {
		c := someConfig(&r, []int{5, 20, 240, 480}[r.Below(4)])
		l := someDisk(t, &r, c)
		l.unsynced = nil
		acts := modelFormat(c)
		for n := range acts {
			for _, keep := range keeps(&r, pendingWrites(acts[:n]), 8) {
				d := l.disk(t)
				d.Arm(n)
				equal(t, "Format", format(t, d, c), errDown)
				d.On(keep)
				want, what := formatFailed(t, l, acts[:n], keep, c)
				equal(t, fmt.Sprintf("Open behind %d acts of Format and %v", n, keep), toldOpen(d), want)
				met[what]++
				equal(t, "Format again", format(t, d, c), 0)
				isNew(t, opens(t, d, api.Super{Config: c, Next: 1}), c)
			}
		}
	}
	met.wants(t, 30, "the empty forest", "neither", "block 0", "block 1", "both", "not found")
}

// pendingWrites is how many writes came behind the last sync.
func pendingWrites(acts []act) int {
	n := 0
	for _, a := range acts {
		if n++; a.block == noBlock {
			n = 0
		}
	}
	return n
}

// formatFailed is what must be opened behind these acts of a Format, of which those that
// were not synced last just where keep says so; and what of it lasted.
func formatFailed(t *testing.T, l lying, acts []act, keep []bool, c api.Config) (string, string) {
	t.Helper()
	lasts := func(k int) bool {
		first := len(acts) - len(keep)
		return k < first || keep[k-first]
	}
	switch {
	case len(acts) == len(modelFormat(c))-1 && lasts(len(acts)-1):
		d := l.did(t, modelFormat(c))
		return toldOpen(d), "the empty forest"
	case len(acts) > 3:
		return fmt.Sprint("error ", errCorrupt), "not found"
	}
	var gone []int
	for at := range 2 {
		if at < len(acts) && lasts(at) {
			gone = append(gone, at)
		}
	}
	what := "neither"
	if len(gone) > 0 {
		what = []string{"block 0", "block 1"}[gone[0]]
	}
	if len(gone) == 2 {
		what = "both"
	}
	return toldOpen(diskOf(t, without(l.blocks, gone...))), what
}
