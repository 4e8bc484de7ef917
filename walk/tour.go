package walk

import (
	"iter"
	"slices"

	"coppice/api"
	"coppice/blob"
	"coppice/span"
	"coppice/vault"
)

// place is where a page hangs in a tree: of what level it must be, and in what range
// its keys must lie.
type place struct {
	no, level int
	keys      api.Range
}

// rootOf is the place of a tree's root.
func rootOf(t api.Tree) place {
	return place{no: t.Root, level: t.Height - 1, keys: api.Range{Open: true}}
}

// beneath is the places of an index's children.
func (at place) beneath(p api.Page) []place {
	var l []place
	for k, i := range p.Items {
		keys := api.Range{Lo: i.Key, Open: true}
		if k+1 < len(p.Items) {
			keys = api.Range{Lo: i.Key, Hi: p.Items[k+1].Key}
		}
		l = append(l, place{no: i.Child, level: at.level - 1, keys: span.Meet(at.keys, keys)})
	}
	return l
}

// order is in which order a list is gone over.
type order int

const (
	rising order = iota
	falling
)

// inOrder goes over a list.
func inOrder[T any](l []T, o order) iter.Seq[T] {
	if o == rising {
		return slices.Values(l)
	}
	return func(yield func(T) bool) {
		for _, x := range slices.Backward(l) {
			if !yield(x) {
				return
			}
		}
	}
}

// tour goes into pages of a tree, into none of them twice: so it ends, and soon,
// wherever they lead.
type tour struct {
	v     *vault.Vault
	gone  map[int]struct{} // the pages that were gone into
	wants func(keys api.Range) bool
	order order
}

// enter is what stands on a page that is gone into; ErrPage, if it is not there, or was
// gone into before.
func (t *tour) enter(n int) (api.Page, api.Errno) {
	p, e := read(t.v, n)
	if _, before := t.gone[n]; before || e != api.OK {
		return api.Page{}, api.ErrPage
	}
	t.gone[n] = struct{}{}
	return p, api.OK
}

// stop is a page on a tour, at its place.
type stop struct {
	place
	page api.Page
}

// stops goes over the page at a place and those beneath it, each one ahead of what is
// beneath it, and leaves out those whose keys are not wanted. An error is the last
// thing that it tells.
func (t *tour) stops(at place) iter.Seq2[stop, api.Errno] {
	return func(yield func(stop, api.Errno) bool) {
		if !t.wants(at.keys) {
			return
		}
		p, e := t.enter(at.no)
		if e != api.OK || !isOfLevel(p, at.level) {
			yield(stop{}, api.ErrPage)
			return
		}
		if !yield(stop{at, p}, api.OK) || p.Kind == api.Leaf {
			return
		}
		for child := range inOrder(at.beneath(p), t.order) {
			for s, e := range t.stops(child) {
				if !yield(s, e) || e != api.OK {
					return
				}
			}
		}
	}
}

// pairs goes over the pairs of a tree whose keys lie in a range. An error is the last
// thing that it tells.
func pairs(v *vault.Vault, t api.Tree, r api.Range, o order) iter.Seq2[api.Pair, api.Errno] {
	return func(yield func(api.Pair, api.Errno) bool) {
		if t == (api.Tree{}) {
			return
		}
		meets := func(keys api.Range) bool { return !span.Empty(span.Meet(r, keys)) }
		part := tour{v: v, gone: map[int]struct{}{}, wants: meets, order: o}
	pages:
		for s, e := range part.stops(rootOf(t)) {
			switch {
			case e != api.OK:
				yield(api.Pair{}, e)
				break pages
			case s.page.Kind == api.Index:
				continue pages
			}
			for i := range inOrder(s.page.Items, o) {
				if !span.Has(r, i.Key) {
					continue
				}
				x, e := pairOf(v, i)
				if !yield(x, e) || e != api.OK {
					break pages
				}
			}
		}
	}
}

// pairOf is the pair of a leaf's item.
func pairOf(v *vault.Vault, i api.Item) (api.Pair, api.Errno) {
	value, e := blob.Load(v, i)
	if e != api.OK {
		return api.Pair{}, e
	}
	return api.Pair{Key: i.Key, Value: value}, api.OK
}

// read is what stands on a page; where there is no vault, no page is there.
func read(v *vault.Vault, n int) (api.Page, api.Errno) {
	if v == nil {
		return api.Page{}, api.ErrPage
	}
	return v.Read(n)
}

// isOfLevel: is it a leaf, for the level 0, or an index of that level?
func isOfLevel(p api.Page, level int) bool { return p.Kind != api.Blob && p.Level == level }
