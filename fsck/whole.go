package fsck

import (
	"coppice/api"
	"coppice/page"
	"coppice/vault"
	"coppice/walk"
)

// whole is the report of a vault for which these trees are forest enough.
func whole(v *vault.Vault, l []api.Root) (api.Report, error) {
	if v == nil {
		return api.Report{}, fault{none, api.ErrNone}
	}
	c := census{v: v, sound: map[api.Tree]struct{}{}, seen: map[int]sight{}}
	for _, r := range l {
		if err := c.tree(r.Tree); err != nil {
			return api.Report{}, err
		}
	}
	if err := c.counts(); err != nil {
		return api.Report{}, err
	}
	return c.report, nil
}

// census goes into all pages that are reached from trees, into each once.
type census struct {
	v      *vault.Vault
	sound  map[api.Tree]struct{} // the trees that were found sound
	seen   map[int]sight         // the pages that were gone into
	report api.Report
}

// sight is what is known of a page that was gone into.
type sight struct {
	led   int // how often it was led to up to now
	bytes int // how many the values of the leaves beneath it have together
}

// tree goes into a tree, if that is sound: so that each page of it is there, and none
// leads back to itself.
func (c *census) tree(t api.Tree) error {
	if _, before := c.sound[t]; !before {
		if e := walk.Check(c.v, t); e != api.OK {
			return wrapped{"tree", t.Root, fault{none, e}}
		}
		c.sound[t] = struct{}{}
	}
	c.report.Trees++
	c.report.Items += t.Items
	if t.Root != 0 {
		c.report.Bytes += c.lead(t.Root)
	}
	return nil
}

// lead counts that a page is led to once more, and tells how many bytes there are beneath
// it.
func (c *census) lead(n int) int {
	s, before := c.seen[n]
	if !before {
		s.bytes = c.goInto(n)
	}
	s.led++
	c.seen[n] = s
	return s.bytes
}

// goInto counts a page, and all that it leads to.
func (c *census) goInto(n int) int {
	p, _ := c.v.Read(n)
	c.report.Pages++
	bytes := 0
	switch p.Kind {
	case api.Leaf:
		c.report.Leaves++
		for _, i := range p.Items {
			bytes += i.Size
		}
	case api.Index:
		c.report.Index++
	case api.Blob: // its bytes are the leaf's
		c.report.Blobs++
	}
	for _, kid := range page.Kids(p) {
		bytes += c.lead(kid)
	}
	return bytes
}

// counts tells whether the count of each page is how often it was led to.
func (c *census) counts() error {
	for at, count := range c.v.Counts() {
		if n := at + 1; count != c.seen[n].led {
			return wrapped{"page", n, fault{none, api.ErrOther}}
		}
	}
	return nil
}
