package put

import (
	"slices"

	"coppice/api"
	"coppice/node"
)

// What this layer makes ready is the tree's own (its own shadow), and has room for an
// item more.

// down makes all pages ready on the way to the item's key, and puts on the leaf what
// atLeaf makes of it, at being the key's place there.
func (x putting) down(t api.Tree, atLeaf func(leaf api.Page, at int) (api.Page, api.Errno)) (api.Tree, api.Errno) {
	t, e := x.top(t)
	if e != api.OK {
		return api.Tree{}, e
	}
	n := t.Root
	for range t.Height - 1 {
		if n, e = x.below(n); e != api.OK {
			return api.Tree{}, e
		}
	}
	leaf, e := x.v.Read(n)
	if e != api.OK {
		return api.Tree{}, e
	}
	at, _ := node.Search(leaf, x.item.Key)
	if leaf, e = atLeaf(leaf, at); e != api.OK {
		return api.Tree{}, e
	}
	return t, x.v.Write(n, leaf)
}

// top is the tree with a root that is ready.
func (x putting) top(t api.Tree) (api.Tree, api.Errno) {
	items, e := x.ready(api.Item{Child: t.Root})
	if e != api.OK {
		return api.Tree{}, e
	}
	if len(items) == 1 {
		t.Root = items[0].Child
		return t, api.OK
	}
	t.Root, e = x.v.Make(api.Page{Kind: api.Index, Level: t.Height, Items: items})
	t.Height++
	return t, e
}

// below makes the child of a ready index ready in whose range the item's key lies, and
// tells its page.
func (x putting) below(n int) (int, api.Errno) {
	index, e := x.v.Read(n)
	if e != api.OK {
		return 0, e
	}
	at := node.Route(index, x.item.Key)
	items, e := x.ready(index.Items[at])
	if e != api.OK {
		return 0, e
	}
	index.Items = slices.Replace(index.Items, at, at+1, items...)
	if e := x.v.Write(n, index); e != api.OK {
		return 0, e
	}
	return index.Items[node.Route(index, x.item.Key)].Child, api.OK
}

// ready is what becomes of an item that leads to a page: it leads to the page's shadow;
// and if that is full, it is split, and an item behind it leads to the right half.
func (x putting) ready(i api.Item) ([]api.Item, api.Errno) {
	n, e := x.v.Shadow(i.Child)
	if e != api.OK {
		return nil, e
	}
	i.Child = n
	p, e := x.v.Read(n)
	if e != api.OK || len(p.Items) < api.Most {
		return []api.Item{i}, e
	}
	left, right, separator, _ := node.Split(p)
	if e := x.v.Write(n, left); e != api.OK {
		return nil, e
	}
	half, e := x.v.Make(right)
	return []api.Item{i, {Key: separator, Child: half}}, e
}
