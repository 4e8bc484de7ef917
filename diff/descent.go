package diff

import (
	"slices"

	"coppice/api"
	"coppice/blob"
	"coppice/node"
	"coppice/span"
	"coppice/vault"
)

// The rank of a page tells how far it is from the end of a tree: a blob has as many as
// pages of its value are left, itself among them; a leaf has more than any blob, an index
// one more than the pages beneath it. A page has one rank, whichever tree leads to it, and
// what leads to it has a higher one.
const (
	lowest  = 1
	ofLeaf  = (api.MaxValue+api.Chunk-1)/api.Chunk + 1
	highest = ofLeaf + api.MaxHeight - 1
)

// side is what is known of one of two trees.
type side struct {
	rows  [highest + 1][]int // by ranks, the pages to which it leads from pages that it has alone
	items []api.Item         // of the leaves that it has alone, by rising keys
}

// descent goes down two trees side by side, and stops at each page that both share: what
// stands beneath it is the same in both.
type descent struct {
	v     *vault.Vault
	keys  api.Range // what lies elsewhere does not matter
	sides [2]side
	led   map[int]int // which of the sides lead to a page: ofOne, or shared
}

// ofOne is a page to which side k leads alone; shared is one to which both do.
func ofOne(k int) int { return 1 << k }

const shared = 1<<0 | 1<<1

// descentOf is a descent that stands at the roots. The range is not empty.
func descentOf(v *vault.Vault, a, b api.Tree, keys api.Range) (*descent, api.Errno) {
	d := &descent{v: v, keys: keys, led: map[int]int{}}
	for k, t := range [...]api.Tree{a, b} {
		switch {
		case t == api.Tree{}:
			continue
		case v == nil || t.Height < 1 || t.Height > api.MaxHeight: // no tree that stands
			return nil, api.ErrPage
		}
		d.sides[k].leadTo(ofLeaf+t.Height-1, t.Root)
	}
	return d, api.OK
}

func (s *side) leadTo(rank, n int) { s.rows[rank] = append(s.rows[rank], n) }

// down goes down to the pages of a rank. Of each rank all pages are met ahead of going
// into one of them, so that it is known which are shared.
func (d *descent) down(to int) api.Errno {
	for rank := highest; rank >= to; rank-- {
		for k := range d.sides {
			if e := d.meet(k, rank); e != api.OK {
				return e
			}
		}
		for k := range d.sides {
			if e := d.enter(k, rank); e != api.OK {
				return e
			}
		}
	}
	return api.OK
}

// meet keeps that a side leads to the pages of a rank.
func (d *descent) meet(k, rank int) api.Errno {
	for _, n := range d.sides[k].rows[rank] {
		if d.led[n]&ofOne(k) != 0 { // in no tree that stands; to go on might take for ever
			return api.ErrPage
		}
		d.led[n] |= ofOne(k)
	}
	return api.OK
}

// enter goes into those pages of a rank that a side has alone.
func (d *descent) enter(k, rank int) api.Errno {
	s := &d.sides[k]
	for _, n := range s.rows[rank] {
		if d.led[n] == shared {
			continue
		}
		p, e := d.v.Read(n)
		if e != api.OK || !isOfRank(p, rank) {
			return api.ErrPage
		}
		d.goOn(s, p, rank)
	}
	return api.OK
}

// goOn leads a side on to what it finds on a page.
func (d *descent) goOn(s *side, p api.Page, rank int) {
	switch p.Kind {
	case api.Index:
		for _, i := range d.within(p) {
			s.leadTo(rank-1, i.Child)
		}
	case api.Leaf:
		for _, i := range p.Items {
			if !span.Has(d.keys, i.Key) {
				continue
			}
			s.items = append(s.items, i)
			if pages := blob.Pages(i.Size); pages > 0 {
				s.leadTo(pages, i.Child)
			}
		}
	case api.Blob:
		s.leadTo(rank-1, p.Next)
	}
}

// within are the items of an index beneath which keys of the range may lie.
func (d *descent) within(p api.Page) []api.Item {
	from, to := node.Route(p, d.keys.Lo), len(p.Items)-1
	if !d.keys.Open {
		to = node.Route(p, d.keys.Hi)
	}
	return p.Items[from : to+1]
}

// isOfRank: may a page be of this rank?
func isOfRank(p api.Page, rank int) bool {
	if rank < ofLeaf {
		return p.Kind == api.Blob
	}
	return p.Kind != api.Blob && p.Level == rank-ofLeaf
}

// unshared are the pages that were met and are not shared, rising.
func (d *descent) unshared() []int {
	var pages []int
	for n, by := range d.led {
		if by != shared {
			pages = append(pages, n)
		}
	}
	slices.Sort(pages)
	return pages
}
