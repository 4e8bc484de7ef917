package node

import (
	"bytes"

	"coppice/api"
)

// with is the page with the items of these pieces in the place of its own, all of it
// in memory of its own, whatever the pieces lie in.
func with(p api.Page, pieces ...[]api.Item) api.Page {
	p.Data = bytes.Clone(p.Data)
	p.Items = nil
	for _, piece := range pieces {
		for _, i := range piece {
			i.Key, i.Value = bytes.Clone(i.Key), bytes.Clone(i.Value)
			p.Items = append(p.Items, i)
		}
	}
	return p
}

// one is an item as a piece of a list.
func one(i api.Item) []api.Item { return []api.Item{i} }

// first is the first items of a page, so many of them.
func first(p api.Page, n int) []api.Item { return p.Items[:n:n] }

// from is the items of a page from this number on.
func from(p api.Page, at int) []api.Item { return p.Items[at:] }

// has: does the page have an item of this number?
func has(p api.Page, at int) bool { return at >= 0 && at < len(p.Items) }
