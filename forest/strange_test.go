package forest_test

import (
	"bytes"
	"slices"
	"testing"

	"coppice/api"
	"coppice/commit"
	"coppice/disk"
	"coppice/draw"
	"coppice/grove"
	"coppice/super"
	"coppice/vault"
)

// familyIn is what trees hold that lie in a store, read page by page.
func familyIn(store *grove.Store, l []api.Root) family {
	f := family{}
	for _, r := range l {
		f[r.Id] = map[string]string{}
		if r.Tree.Root != 0 {
			readInto(f[r.Id], store, r.Tree.Root)
		}
	}
	return f
}

func readInto(m map[string]string, store *grove.Store, n int) {
	p := store.On[n-1]
	for _, i := range p.Items {
		if p.Kind == indexKind {
			readInto(m, store, i.Child)
			continue
		}
		value := bytes.Clone(i.Value)
		for at := i.Child; at != 0; at = store.On[at-1].Next {
			value = append(value, store.On[at-1].Data...)
		}
		m[string(i.Key)] = string(value)
	}
}

// strange is a forest that no calls have made: trees made by hand, that share pages in any
// way in which sound trees may.
type strange struct {
	r     *draw.Numbers
	pages []api.Page // from page 1 on; the zero Page: it is free
	trees []api.Tree
}

func (x *strange) lay(p api.Page) int {
	x.pages = append(x.pages, p)
	return len(x.pages)
}

// grow lays another tree beside the others.
func (x *strange) grow() {
	g, off := grove.Any(x.r, 1+x.r.Below(3)), len(x.pages)
	for _, p := range g.Pages {
		p.Items = slices.Clone(p.Items)
		for k := range p.Items {
			if p.Items[k].Child != 0 {
				p.Items[k].Child += off
			}
		}
		if p.Next != 0 {
			p.Next += off
		}
		x.lay(p)
	}
	g.Tree.Root += off
	x.trees = append(x.trees, g.Tree)
}

func (x *strange) store(refs int) *grove.Store { return grove.StoreOf(refs, x.pages, 0) }

// sized is the tree that has this page as its root.
func (x *strange) sized(root int) api.Tree {
	m := map[string]string{}
	readInto(m, x.store(2), root)
	return tree(root, x.pages[root-1].Level+1, len(m))
}

// some is one of the trees.
func (x *strange) some() api.Tree { return x.trees[x.r.Below(len(x.trees))] }

// part makes a tree of some of the children of another one's root, or of one of them: it
// shares them in another range.
func (x *strange) part() {
	root := x.pages[x.some().Root-1]
	n := len(root.Items)
	if root.Kind != indexKind {
		return
	}
	from := x.r.Below(n)
	items := slices.Clone(root.Items[from : from+1+x.r.Below(n-from)])
	if len(items) == 1 {
		x.trees = append(x.trees, x.sized(items[0].Child))
		return
	}
	items[0].Key = nil
	x.trees = append(x.trees, x.sized(x.lay(api.Page{Kind: indexKind, Level: root.Level, Items: items})))
}

// values makes a leaf of values that lie in other trees, from any page of theirs on.
func (x *strange) values() {
	var items []api.Item
	for n, p := range x.pages {
		if p.Kind == blobKind && x.r.Below(3) == 0 && len(items) < 8 {
			i := api.Item{Key: []byte{byte('a' + len(items))}, Child: n + 1}
			for at := n + 1; at != 0; at = x.pages[at-1].Next {
				i.Size += len(x.pages[at-1].Data)
			}
			if i.Size > inline && x.isApart(items, n+1) {
				items = append(items, i)
			}
		}
	}
	if len(items) > 0 {
		x.trees = append(x.trees, x.sized(x.lay(api.Page{Kind: leafKind, Items: items})))
	}
}

// isApart: does no page of the value that begins on a page lie in those of items? Within one
// tree no page is led to from two places.
func (x *strange) isApart(items []api.Item, n int) bool {
	seen := map[int]int{}
	for _, first := range append(slices.Clone(items), api.Item{Child: n}) {
		for at := first.Child; at != 0; at = x.pages[at-1].Next {
			seen[at]++
			if seen[at] > 1 {
				return false
			}
		}
	}
	return true
}

// someStrange is such a forest on a disk, with a few pages free, or none.
func someStrange(t *testing.T, r *draw.Numbers) *disk.Disk {
	t.Helper()
	x := &strange{r: r}
	for range 1 + r.Below(2) {
		x.grow()
	}
	for range r.Below(6) {
		switch r.Below(5) {
		case 0:
			x.trees = append(x.trees, x.some())
		case 1:
			x.values()
		default:
			x.part()
		}
	}
	c := someConfig(r, max(4, len(x.pages)+[]int{0, 1, 2, 5, 20, 60}[r.Below(6)]))
	p := plan(t, c)
	store := grove.StoreOf(maxRefs, x.pages, p.Pages-len(x.pages))
	led := grove.Led(vaultOf(t, store), x.trees...)
	c.Refs = 2
	for k := range store.Counts {
		store.Counts[k] = led[k+1]
		c.Refs = max(c.Refs, led[k+1]+r.Below(2))
	}
	c.Clones = len(x.trees) + r.Below(3)
	store.Refs = c.Refs
	s := api.Super{Gen: r.Below(9), Config: c, Next: 1}
	if r.Below(4) == 0 {
		s.Gen, s.Next = maxGen-r.Below(4), maxId-30
	}
	for _, y := range x.trees {
		s.Roots = append(s.Roots, api.Root{Id: s.Next, Tree: y})
		s.Next += 1 + r.Below(3)*r.Below(2)
	}
	if s.Next > maxId-30 {
		s.Next = maxId + 1 - r.Below(3)
	}
	d := newDisk(t, c.Blocks)
	equal(t, "commit.Write", commit.Write(d, s, vaultOf(t, store)), 0)
	return d
}

// plan is where things lie on a disk of a config.
func plan(t *testing.T, c api.Config) api.Plan {
	t.Helper()
	p, e := super.Plan(c)
	equal(t, "super.Plan", e, 0)
	return p
}

func vaultOf(t *testing.T, s *grove.Store) *vault.Vault {
	t.Helper()
	v, e := s.Vault()
	equal(t, "a vault", e, 0)
	return v
}
