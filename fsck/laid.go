package fsck

import (
	"coppice/api"
	"coppice/bank"
	"coppice/disk"
	"coppice/page"
	"coppice/super"
	"coppice/vault"
)

// laid is a superblock with the disk on which its forest should lie.
type laid struct {
	disk  *disk.Disk
	super api.Super
	plan  api.Plan
}

// open is a superblock that fits a disk, with the disk. That it does not fit is the only
// fault there can be.
func open(d *disk.Disk, s api.Super) (laid, error) {
	if e := super.Check(s); e != api.OK {
		return laid{}, e
	}
	switch {
	case d == nil || !d.IsOn():
		return laid{}, api.ErrDown
	case d.Blocks() != s.Config.Blocks:
		return laid{}, fault{none, api.ErrOther}
	}
	p, _ := super.Plan(s.Config) // there is one, since Check takes the superblock
	return laid{d, s, p}, nil
}

// vault is the pages that the bank counts, with what their blocks say; all of it lasts.
func (l laid) vault() (*vault.Vault, error) {
	counts, err := l.allCounts()
	if err != nil {
		return nil, err
	}
	var pages []api.Numbered
	for at, count := range counts {
		if count == 0 {
			continue
		}
		p, err := l.page(at + 1)
		if err != nil {
			return nil, err
		}
		pages = append(pages, api.Numbered{No: at + 1, Page: p})
	}
	v, e := vault.Load(l.super.Config.Refs, counts, pages)
	if e != api.OK {
		return nil, fault{none, e}
	}
	return v, nil
}

// allCounts is what the blocks of the bank say.
func (l laid) allCounts() ([]int, error) {
	var all []int
	for i := range l.plan.Bank {
		counts, err := l.counts(i)
		if err != nil {
			return nil, err
		}
		all = append(all, counts...)
	}
	return all, nil
}

// counts is what one block of the bank says.
func (l laid) counts(i int) ([]int, error) {
	at := super.Bank(l.plan, super.Slot(l.super.Gen)) + i
	counts, e := bank.Block(l.super.Gen, l.plan.Pages, i, l.read(at))
	if e != api.OK {
		return nil, wrapped{"part of the bank", i, fault{at, e}}
	}
	return counts, nil
}

// page is what the block of a page says, if it is none of a later generation.
func (l laid) page(no int) (api.Page, error) {
	at := l.blockOf(no)
	p, gen, e := page.Decode(no, l.read(at))
	if e == api.OK && gen > l.super.Gen {
		e = api.ErrOther
	}
	if e != api.OK {
		return api.Page{}, wrapped{"page", no, fault{at, e}}
	}
	return p, nil
}

// blockOf is the block of a page of the plan.
func (l laid) blockOf(no int) int {
	at, _ := super.Block(l.plan, no)
	return at
}

// read is the bytes of a block; of one that cannot be read none, which are no block of
// anything.
func (l laid) read(at int) []byte {
	b, _ := l.disk.Read(at)
	return b
}
