package super_test

import (
	"testing"

	"coppice/api"
	"coppice/draw"
	"coppice/super"
)

func TestExamplesOfPlan(t *testing.T) {
	for _, c := range []struct {
		c api.Config
		p api.Plan
	}{
		{api.Config{Blocks: 8, Clones: 1, Refs: 2}, api.Plan{Pages: 4, Bank: 1, First: 4}},
		{api.Config{Blocks: 9, Clones: 1, Refs: 2}, api.Plan{Pages: 5, Bank: 1, First: 4}},
		{api.Config{Blocks: 244, Clones: 1, Refs: 2}, api.Plan{Pages: 240, Bank: 1, First: 4}},
		{api.Config{Blocks: 245, Clones: 1, Refs: 2}, api.Plan{Pages: 240, Bank: 1, First: 4}},
		{api.Config{Blocks: 246, Clones: 1, Refs: 2}, api.Plan{Pages: 240, Bank: 1, First: 4}},
		{api.Config{Blocks: 247, Clones: 1, Refs: 2}, api.Plan{Pages: 241, Bank: 2, First: 6}},
		{api.Config{Blocks: 65536, Clones: 16, Refs: 65535}, api.Plan{Pages: 64992, Bank: 271, First: 544}},
	} {
		planned(t, c.c, c.p)
	}
	for _, c := range []api.Config{{Blocks: 7, Clones: 1, Refs: 2}, {Blocks: 8, Clones: 0, Refs: 2}, {Blocks: 8, Clones: 17, Refs: 2}, {Blocks: 8, Clones: 1, Refs: 1}, {Blocks: 8, Clones: 1, Refs: 65536}} {
		noPlan(t, c)
	}
}

func planned(t *testing.T, c api.Config, want api.Plan) {
	t.Helper()
	if p, e := super.Plan(c); p != want || e != api.OK {
		t.Fatalf("Plan(%v) = %v, %d; want %v", c, p, e, want)
	}
}

func noPlan(t *testing.T, c api.Config) {
	t.Helper()
	if p, e := super.Plan(c); p != (api.Plan{}) || e != api.ErrArg {
		t.Fatalf("Plan(%v) = %v, %d; want ErrArg and nothing else", c, p, e)
	}
}

// Of every number of blocks, against pages that are counted one by one.
func TestP9_1EveryNumberOfBlocks(t *testing.T) {
	pages := 0
	for blocks := leastBlocks; blocks <= mostBlocks; blocks++ {
		for 2+2*modelBank(pages+1)+pages+1 <= blocks {
			pages++
		}
		n := modelBank(pages)
		planned(t, api.Config{Blocks: blocks, Clones: 1 + blocks%16, Refs: 2 + blocks%65534}, api.Plan{Pages: pages, Bank: n, First: 2 + 2*n})
	}
}

// What is not the number of blocks does not move anything.
func TestP9_1ClonesAndRefs(t *testing.T) {
	for _, blocks := range []int{8, 247, 65536} {
		want, _ := super.Plan(api.Config{Blocks: blocks, Clones: 1, Refs: 2})
		for clones := 1; clones <= mostClones; clones++ {
			for _, refs := range []int{2, 3, 255, 256, 65534, 65535} {
				planned(t, api.Config{Blocks: blocks, Clones: clones, Refs: refs}, want)
			}
		}
	}
}

func TestP9_1NoConfig(t *testing.T) {
	far := []int{-1, -2, -8, -65536, 1 << 17, 1<<32 + 8, 1<<32 + 1, -1<<32 + 8, greatest, greatest - 1, least, least + 1}
	noBlocks := append([]int{0, 1, 2, 3, 4, 6, 7, 65537, 65538}, far...)
	noClones := append([]int{0, 17, 18, 256, 257}, far...)
	noRefs := append([]int{0, 1, 65536, 65537, 65538}, far...)
	for _, blocks := range noBlocks {
		noPlan(t, api.Config{Blocks: blocks, Clones: 1, Refs: 2})
		noPlan(t, api.Config{Blocks: blocks, Clones: 16, Refs: 65535})
		for _, clones := range noClones {
			noPlan(t, api.Config{Blocks: blocks, Clones: clones, Refs: 2})
			for _, refs := range noRefs {
				noPlan(t, api.Config{Blocks: blocks, Clones: clones, Refs: refs})
			}
		}
	}
	for _, clones := range noClones {
		noPlan(t, api.Config{Blocks: 8, Clones: clones, Refs: 2})
		noPlan(t, api.Config{Blocks: 65536, Clones: clones, Refs: 65535})
	}
	for _, refs := range noRefs {
		noPlan(t, api.Config{Blocks: 8, Clones: 1, Refs: refs})
		noPlan(t, api.Config{Blocks: 65536, Clones: 16, Refs: refs})
	}
	noPlan(t, api.Config{})
}

func TestExamplesOfPlaces(t *testing.T) {
	p := api.Plan{Pages: 241, Bank: 2, First: 6}
	for gen, want := range map[int]int{0: 0, 7: 1, -1: 1} {
		slotIs(t, gen, want)
	}
	for slot, want := range map[int]int{0: 2, 1: 4, 2: 0} {
		bankIs(t, p, slot, want)
	}
	blockIs(t, p, 1, 6)
	blockIs(t, p, 241, 246)
	noBlock(t, p, 0)
	noBlock(t, p, 242)
}

func slotIs(t *testing.T, gen, want int) {
	t.Helper()
	if s := super.Slot(gen); s != want {
		t.Fatalf("Slot(%d) = %d, want %d", gen, s, want)
	}
}

func bankIs(t *testing.T, p api.Plan, slot, want int) {
	t.Helper()
	if b := super.Bank(p, slot); b != want {
		t.Fatalf("Bank(%v, %d) = %d, want %d", p, slot, b, want)
	}
}

func blockIs(t *testing.T, p api.Plan, no, want int) {
	t.Helper()
	if b, ok := super.Block(p, no); b != want || !ok {
		t.Fatalf("Block(%v, %d) = %d, %v; want %d", p, no, b, ok, want)
	}
}

func noBlock(t *testing.T, p api.Plan, no int) {
	t.Helper()
	if b, ok := super.Block(p, no); b != 0 || ok {
		t.Fatalf("Block(%v, %d) = %d, %v; want none", p, no, b, ok)
	}
}

func TestP9_2Slot(t *testing.T) {
	for gen := -1000; gen <= 1000; gen += 2 {
		slotIs(t, gen, 0)
		slotIs(t, gen+1, 1)
	}
	for gen, want := range map[int]int{mostGen: 0, mostGen + 1: 1, mostGen - 1: 1, greatest: 1, greatest - 1: 0, least: 0, least + 1: 1, 1 << 32: 0, 1<<32 + 1: 1, -1 << 32: 0, -1<<32 - 1: 1} {
		slotIs(t, gen, want)
	}
}

// anyPlans are such that no config has, too.
func anyPlans() []api.Plan {
	l := []api.Plan{{}, {Pages: 241, Bank: 2, First: 6}, {Pages: 4, Bank: 1, First: 4}}
	ends := []int{-3, -1, 0, 1, 2, 65536, 1 << 32, greatest, greatest - 1, least, least + 1}
	for _, pages := range ends {
		for _, first := range ends {
			for _, n := range []int{-1, 0, 3, greatest, least} {
				l = append(l, api.Plan{Pages: pages, Bank: n, First: first})
			}
		}
	}
	return l
}

func TestP9_2Bank(t *testing.T) {
	for _, p := range anyPlans() {
		bankIs(t, p, 0, 2)
		bankIs(t, p, 1, 2+p.Bank)
		for _, slot := range []int{-1, -2, 2, 3, 4, 256, 1 << 32, 1<<32 + 1, greatest, greatest - 1, least, least + 1} {
			bankIs(t, p, slot, 0)
		}
	}
	bankIs(t, api.Plan{Bank: greatest}, 1, least+1)
	bankIs(t, api.Plan{Bank: greatest - 1}, 1, least)
	bankIs(t, api.Plan{Bank: -2}, 1, 0)
	bankIs(t, api.Plan{Bank: least}, 1, least+2)
}

func TestP9_2Block(t *testing.T) {
	numbers := []int{least, least + 1, -1 << 32, -2, -1, 0, 1, 2, 3, 4, 5, 241, 242, 65536, 65537, 1 << 32, 1<<32 + 1, greatest - 1, greatest}
	for _, p := range anyPlans() {
		for _, no := range append(numbers, p.Pages, p.Pages-1, p.Pages+1) {
			if no < 1 || no > p.Pages {
				noBlock(t, p, no)
				continue
			}
			blockIs(t, p, no, p.First+(no-1))
		}
	}
	blockIs(t, api.Plan{Pages: 2, First: greatest}, 1, greatest)
	blockIs(t, api.Plan{Pages: 2, First: greatest}, 2, least)
	blockIs(t, api.Plan{Pages: greatest, First: greatest}, greatest, -3)
	blockIs(t, api.Plan{Pages: greatest, First: least}, greatest, -2)
	blockIs(t, api.Plan{Pages: 1, First: 0}, 1, 0)
	noBlock(t, api.Plan{Pages: -1, First: 4}, -1)
	noBlock(t, api.Plan{Pages: least, First: 4}, 1)
}

// laid goes over all blocks of a config's disk and tells what lies there.
func laid(t *testing.T, blocks int) {
	t.Helper()
	p, e := super.Plan(api.Config{Blocks: blocks, Clones: 1, Refs: 2})
	if e != api.OK || p.Pages < 1 || p.Bank*240 < p.Pages {
		t.Fatalf("of %d blocks: %v, %d", blocks, p, e)
	}
	used := make([]int, blocks)
	use := func(b, what int) {
		if b < 0 || b >= blocks || used[b] != 0 {
			t.Fatalf("of %d blocks: %d lies in the block %d, with something else or outside", blocks, what, b)
		}
		used[b] = what
	}
	for gen := range 2 {
		use(super.Slot(gen), -1)
		for i := range p.Bank {
			use(super.Bank(p, super.Slot(gen))+i, -2)
		}
	}
	for no := 1; no <= p.Pages; no++ {
		b, ok := super.Block(p, no)
		if !ok {
			t.Fatalf("of %d blocks: page %d has none", blocks, no)
		}
		use(b, no)
	}
	noBlock(t, p, p.Pages+1)
}

func TestP9_8WhatLiesWhere(t *testing.T) {
	for blocks := leastBlocks; blocks <= 2000; blocks++ {
		laid(t, blocks)
	}
	r := draw.Numbers(98)
	for _, blocks := range []int{65000, 65340, 65341, 65342, 65343, 65344, 65345, 65535, 65536, 8 + r.Below(65529), 8 + r.Below(65529), 8 + r.Below(65529)} {
		laid(t, blocks)
	}
}

// Of every config: the parts stand in a row, each where the one ahead of it ends, all
// of them are blocks of the disk, and with a page more they would not be.
func TestP9_8EveryNumberOfBlocks(t *testing.T) {
	for blocks := leastBlocks; blocks <= mostBlocks; blocks++ {
		p, e := super.Plan(api.Config{Blocks: blocks, Clones: 16, Refs: 65535})
		one, _ := super.Block(p, 1)
		last, _ := super.Block(p, p.Pages)
		if e != api.OK || super.Slot(0) != 0 || super.Slot(1) != 1 || super.Bank(p, 0) != 2 || super.Bank(p, 1) != 2+p.Bank || one != 2+2*p.Bank {
			t.Fatalf("of %d blocks: %v, %d: parts lie apart or on one another", blocks, p, e)
		}
		if p.Pages < 1 || p.Bank*240 < p.Pages || last != one+p.Pages-1 || last >= blocks {
			t.Fatalf("of %d blocks: %v: no room for pages or their counts", blocks, p)
		}
		if more := p.Pages + 1; 2+2*modelBank(more)+more <= blocks {
			t.Fatalf("of %d blocks: %v: one page more has room", blocks, p)
		}
	}
}
