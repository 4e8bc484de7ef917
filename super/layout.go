package super

import (
	"coppice/api"
	"coppice/bank"
)

// The slots: the numbers of the superblocks' blocks and of the banks. What comes
// first behind the superblocks lies in the block slots.
const (
	evenSlot = iota
	oddSlot
	slots
)

func mayBe(c api.Config) bool {
	return isFrom(c.Blocks, api.MinBlocks, api.MaxBlocks) &&
		isFrom(c.Clones, 1, api.MaxClones) &&
		isFrom(c.Refs, api.MinRefs, api.MaxRefs-1)
}

// layout is the plan of a disk of so many blocks, MinBlocks or more.
func layout(blocks int) api.Plan {
	pages := pagesIn(blocks - slots)
	each := bank.Blocks(pages)
	return api.Plan{Pages: pages, Bank: each, First: slots + slots*each}
}

// pagesIn is how many pages have room in so many blocks beside their counts. A block
// of each bank comes with PerBlock pages; what is left over behind full ones takes a
// block of each bank too, and is none, if nothing has room beside these.
func pagesIn(blocks int) int {
	full, over := blocks/(api.PerBlock+slots), blocks%(api.PerBlock+slots)
	return full*api.PerBlock + max(over-slots, 0)
}

func isPage(p api.Plan, no int) bool { return isFrom(no, 1, p.Pages) }

func isFrom(x, least, most int) bool { return least <= x && x <= most }
