package commit

import (
	"coppice/api"
	"coppice/bank"
	"coppice/disk"
	"coppice/page"
	"coppice/super"
	"coppice/vault"
)

// piece is what is written into one block.
type piece interface {
	block() int    // where it is written
	bytes() []byte // all of the block
}

// lay writes pieces, each batch synced ahead of the next one. A disk without power says so
// at the first of them.
func lay(d *disk.Disk, batches ...[]piece) api.Errno {
	for _, batch := range batches {
		for _, x := range batch {
			if e := d.Write(x.block(), x.bytes()); e != api.OK {
				return e
			}
		}
		if e := d.Sync(); e != api.OK {
			return e
		}
	}
	return api.OK
}

// zeros is bytes 0 in a slot, which are no superblock.
type zeros struct{ slot int }

func (z zeros) block() int { return z.slot }

func (z zeros) bytes() []byte { return make([]byte, api.BlockSize) }

// sheet is a page, written in a generation.
type sheet struct {
	plan    api.Plan
	no, gen int
	page    api.Page
}

func (s sheet) block() int {
	at, _ := super.Block(s.plan, s.no) // the vault has just the pages of the plan
	return at
}

func (s sheet) bytes() []byte {
	b, _ := page.Encode(s.no, s.gen, s.page) // what stands in a vault is a page
	return b
}

// pagesOf is the pages of a vault that do not last yet, rising.
func pagesOf(plan api.Plan, gen int, v *vault.Vault) []piece {
	var l []piece
	for n, p := range v.Pages(api.Fresh) {
		l = append(l, sheet{plan, n, gen, p})
	}
	return l
}

// part is a block of a bank.
type part struct {
	at   int
	said []byte
}

func (p part) block() int { return p.at }

func (p part) bytes() []byte { return p.said }

// bankOf is the bank of a generation, with a vault's counts, rising.
func bankOf(plan api.Plan, gen int, v *vault.Vault) []piece {
	first := super.Bank(plan, super.Slot(gen))
	blocks, _ := bank.Encode(gen, v.Counts()) // none is above the vault's Refs
	var l []piece
	for i, b := range blocks {
		l = append(l, part{first + i, b})
	}
	return l
}

// head is a superblock that Check takes.
type head struct{ super api.Super }

func (h head) block() int { return super.Slot(h.super.Gen) }

func (h head) bytes() []byte {
	b, _ := super.Encode(h.super)
	return b
}
