package fsck

import (
	"errors"
	"slices"

	"coppice/api"
	"coppice/page"
)

// thing is a page as what it is led to: as a page of a level, or as a blob.
type thing struct{ no, level int }

// asBlob stands where a thing that is no blob has its level.
const asBlob = -1

// is: is the page what it is led to as?
func (x thing) is(p api.Page) bool {
	switch {
	case p.Kind == api.Blob:
		return x.level == asBlob
	case p.Kind == api.Leaf:
		return x.level == 0
	}
	return x.level == p.Level // an index is of no level below 1
}

// leadsTo is what a page leads to.
func leadsTo(p api.Page) []thing {
	level := asBlob // of a leaf and of a blob
	if p.Kind == api.Index {
		level = p.Level - 1
	}
	var l []thing
	for _, no := range page.Kids(p) {
		l = append(l, thing{no, level})
	}
	return l
}

// bad is the blocks that are none of the forest, rising.
func (l laid) bad() []int {
	var blocks []int
	blame := func(err error) {
		var f fault
		if errors.As(err, &f) {
			blocks = append(blocks, f.block)
		}
	}
	for i := range l.plan.Bank {
		_, err := l.counts(i)
		blame(err)
	}
	seen := map[thing]struct{}{}
	next := l.roots()
	for len(next) > 0 {
		x := next[len(next)-1]
		next = next[:len(next)-1]
		if _, before := seen[x]; before {
			continue
		}
		seen[x] = struct{}{}
		p, err := l.right(x)
		blame(err)
		next = append(next, leadsTo(p)...)
	}
	slices.Sort(blocks) // pages are met in no order, and some as several things
	return slices.Compact(blocks)
}

// roots is what the superblock leads to.
func (l laid) roots() []thing {
	var all []thing
	for _, r := range l.super.Roots {
		if t := r.Tree; t.Root != 0 {
			all = append(all, thing{t.Root, t.Height - 1})
		}
	}
	return all
}

// right is what stands on a page, if that is right as what it is led to; else the zero
// Page, which leads to nothing.
func (l laid) right(x thing) (api.Page, error) {
	p, err := l.page(x.no)
	if err != nil {
		return api.Page{}, err
	}
	isBeyond := func(no int) bool { return no > l.plan.Pages }
	if !x.is(p) || slices.ContainsFunc(page.Kids(p), isBeyond) {
		return api.Page{}, wrapped{"page", x.no, fault{l.blockOf(x.no), api.ErrPage}}
	}
	return p, nil
}
