package walk

import (
	"coppice/api"
	"coppice/span"
	"coppice/vault"
)

// Check tells whether a tree is sound.
func Check(v *vault.Vault, t api.Tree) api.Errno {
	switch {
	case t == api.Tree{}:
		return api.OK
	case t.Root == 0 || t.Height < 1 || t.Height > api.MaxHeight || t.Items < 1:
		return api.ErrForm
	}
	// Where separators lie outside of the range of their index, no key lies in the range
	// of a child: it must be gone into all the same.
	all := func(api.Range) bool { return true }
	whole := tour{v: v, gone: map[int]struct{}{}, wants: all, order: rising}
	keys := 0
	for s, e := range whole.stops(rootOf(t)) {
		if e != api.OK {
			return e
		}
		// The root needs no look: no vault takes a leaf without items, nor an index
		// with fewer than 2.
		if s.no != t.Root && len(s.page.Items) < api.Least {
			return api.ErrForm
		}
		if s.page.Kind == api.Leaf {
			if e := whole.checkLeaf(s); e != api.OK {
				return e
			}
			keys += len(s.page.Items)
		}
	}
	if keys != t.Items {
		return api.ErrMany
	}
	return api.OK
}

// checkLeaf tells whether the keys of a leaf lie in its range, and the pages of their
// values are sound.
func (t *tour) checkLeaf(s stop) api.Errno {
	for _, i := range s.page.Items {
		if !span.Has(s.keys, i.Key) {
			return api.ErrOrder
		}
		if i.Size > api.Inline {
			if e := t.checkValue(i); e != api.OK {
				return e
			}
		}
	}
	return api.OK
}

// checkValue tells whether the pages of a long value are sound. (blob.Load does not tell
// whether a page of it was gone into before.)
func (t *tour) checkValue(i api.Item) api.Errno {
	n := i.Child
	for lacking := i.Size; lacking > 0; lacking -= api.Chunk {
		p, e := t.enter(n)
		if e != api.OK || p.Kind != api.Blob {
			return api.ErrPage
		}
		isLast := lacking <= api.Chunk
		if len(p.Data) != min(lacking, api.Chunk) || (p.Next == 0) != isLast {
			return api.ErrForm
		}
		n = p.Next
	}
	return api.OK
}
