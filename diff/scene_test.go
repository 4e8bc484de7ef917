package diff_test

import (
	"bytes"
	"fmt"
	"slices"
	"testing"

	"coppice/api"
	"coppice/cut"
	"coppice/diff"
	"coppice/draw"
	"coppice/fork"
	"coppice/grove"
	"coppice/put"
	"coppice/vault"
)

// couple is two trees in a vault, each of which stands there by itself.
type couple struct {
	v     *vault.Vault
	a, b  api.Tree
	grown *grove.Grown // a, or what it was at the beginning
}

// someCouple is two trees that share all, some or none of their pages.
func someCouple(t *testing.T, r *draw.Numbers, height int) couple {
	t.Helper()
	switch r.Below(8) {
	case 0:
		return alike(t, r, height)
	case 1:
		return strangers(t, r, height)
	case 2, 3, 4:
		return siblings(t, r, height, 1+r.Below(12))
	}
	return relatives(t, r, height, r.Below(2))
}

// alike is a tree twice, or a tree and its clone, or one of both and the empty tree.
func alike(t *testing.T, r *draw.Numbers, height int) couple {
	t.Helper()
	c := siblings(t, r, height, 0)
	switch r.Below(4) {
	case 0:
		c.b = empty
	case 1:
		c.a = empty
	case 2:
		c.a, c.b = empty, empty
	}
	return c
}

// siblings is a tree and a clone of it, into both of which keys are put, and out of which
// keys are cut, so many times in all. They stand together.
func siblings(t *testing.T, r *draw.Numbers, height, times int) couple {
	t.Helper()
	g := grove.Any(r, height)
	s, trees := grove.Setting{Refs: 20, More: 200 + 20*times, Lasting: r.Below(5)}.Lay(r, g)
	v := vaultOf(t, s)
	x, e := fork.Clone(v, trees[0])
	equal(t, "Clone", e, 0)
	both := [2]api.Tree{trees[0], x}
	for range times {
		k := r.Below(4) / 3 // mostly the first one
		both[k] = tended(t, r, v, both[k], g)
		if r.Below(9) == 0 {
			v.Settle()
		}
	}
	if r.Below(2) == 0 {
		both[0], both[1] = both[1], both[0]
	}
	return couple{v, both[0], both[1], g}
}

// tended is a tree into which a key is put, or out of which one is cut.
func tended(t *testing.T, r *draw.Numbers, v *vault.Vault, x api.Tree, g *grove.Grown) api.Tree {
	t.Helper()
	var e api.Errno
	if r.Below(3) == 0 {
		x, _, e = cut.Cut(v, x, g.SomeKey(r))
	} else {
		x, _, e = put.Put(v, x, g.SomeKey(r), someValue(r))
	}
	equal(t, "tending a tree", e, 0)
	return x
}

// someValue is a value of any kind, mostly a short one.
func someValue(r *draw.Numbers) []byte {
	sizes := grove.Sizes()
	if r.Below(4) == 0 {
		return value(sizes[r.Below(len(sizes))])
	}
	return r.Bytes(r.Below(3))
}

// strangers is two trees that share no page; of their keys they share some.
func strangers(t *testing.T, r *draw.Numbers, height int) couple {
	t.Helper()
	g := grove.Any(r, height)
	var l []api.Pair
	for _, x := range g.Pairs {
		switch r.Below(6) {
		case 0:
			x.Value = someValue(r)
		case 1:
			continue
		case 2:
			x.Key = append(slices.Clip(x.Key[:min(len(x.Key), maxKey-1)]), byte(r.Below(3)))
		}
		if n := len(l); n == 0 || bytes.Compare(l[n-1].Key, x.Key) < 0 {
			l = append(l, x)
		}
	}
	from := r.Below(len(l) + 1)
	if r.Below(2) == 0 { // of any height
		l = l[from : from+r.Below(len(l)-from+1)]
	}
	s, trees := grove.Setting{Refs: 20, More: 900, Lasting: r.Below(5)}.Lay(r, g)
	v := vaultOf(t, s)
	c := couple{v, trees[0], built(t, v, l), g}
	if r.Below(2) == 0 {
		c.a, c.b = c.b, c.a
	}
	return c
}

// regrowing makes a tree out of another one by hand: of what stands on pages some stays
// where it is.
type regrowing struct {
	r     *draw.Numbers
	pages []api.Page
}

// relatives is a tree and another one that was made of it, or of a part of it, by hand. If
// together is 1, they stand together; if it is 0, each but by itself.
func relatives(t *testing.T, r *draw.Numbers, height, together int) couple {
	t.Helper()
	g := grove.Any(r, height)
	x := &regrowing{r, slices.Clone(g.Pages)}
	level := r.Below(len(g.Levels))
	if r.Below(2) == 0 {
		level = len(g.Levels) - 1
	}
	spot := g.Levels[level][r.Below(len(g.Levels[level]))]
	b := api.Tree{Root: x.page(spot.No, nil), Height: level + 1}
	b.Items = x.keys(b.Root)
	s := grove.StoreOf(9, x.pages, 300)
	if led := grove.Led(vaultOf(t, s), g.Tree, b); together == 1 {
		for n, c := range led {
			s.Counts[n-1] = c
		}
	}
	for k, c := range s.Counts {
		s.Lasts[k] = min(c, r.Below(2))
	}
	c := couple{vaultOf(t, s), g.Tree, b, g}
	if r.Below(2) == 0 {
		c.a, c.b = c.b, c.a
	}
	stand(t, c.v, c.a)
	stand(t, c.v, c.b)
	return c
}

func (x *regrowing) lay(p api.Page) int {
	x.pages = append(x.pages, p)
	return len(x.pages)
}

// page is a page in the place of another one, or that one itself; keys that come new to
// it must be below hi, if that is one.
func (x *regrowing) page(n int, hi []byte) int {
	if x.r.Below(3) == 0 {
		return n
	}
	p := x.pages[n-1]
	p.Items = slices.Clone(p.Items)
	for k := range p.Items {
		next := hi
		if k+1 < len(p.Items) {
			next = p.Items[k+1].Key
		}
		if p.Kind == indexKind {
			p.Items[k].Child = x.page(p.Items[k].Child, next)
		} else {
			p.Items[k] = x.item(p.Items[k], next)
		}
	}
	if len(p.Items) > least && x.r.Below(2) == 0 {
		at := x.r.Below(len(p.Items))
		p.Items = slices.Delete(p.Items, at, at+1)
		if p.Kind == indexKind {
			p.Items[0].Key = nil
		}
	}
	return x.lay(p)
}

// item is an item of a leaf in the place of another one; its key must be below next, if
// that is one.
func (x *regrowing) item(i api.Item, next []byte) api.Item {
	switch x.r.Below(5) {
	case 0: // another key, with the same value
		key := append(slices.Clip(i.Key), 0)
		if len(key) <= maxKey && (next == nil || bytes.Compare(key, next) < 0) {
			i.Key = key
		}
	case 1: // another short value
		i.Value, i.Child = x.r.Bytes(x.r.Below(inline+1)), 0
		i.Size = len(i.Value)
	case 2: // the same value, or another one of its length, on pages some of which are others
		if i.Child != 0 {
			i.Child = x.blob(i.Child)
		} else if i.Size > 0 && x.r.Below(2) == 0 {
			i.Value = turned(i.Value, x.r.Below(i.Size))
		}
	case 3: // a long value's first page is left out
		if first := i.Child; first != 0 && i.Size > chunk+inline {
			i.Child, i.Size = x.pages[first-1].Next, i.Size-chunk
		}
	}
	return i
}

// blob is a value's page in the place of another one, or that one itself.
func (x *regrowing) blob(n int) int {
	if n == 0 || x.r.Below(4) == 0 {
		return n
	}
	p := x.pages[n-1]
	if x.r.Below(2) == 0 {
		p.Data = turned(p.Data, x.r.Below(len(p.Data)))
	}
	p.Next = x.blob(p.Next)
	return x.lay(p)
}

// keys is how many keys there are from a page on.
func (x *regrowing) keys(n int) int {
	p := x.pages[n-1]
	if p.Kind == leafKind {
		return len(p.Items)
	}
	sum := 0
	for _, i := range p.Items {
		sum += x.keys(i.Child)
	}
	return sum
}

// name is what kind of couple it is: how many of their pages both share, and which one is
// higher.
func (c couple) name() string {
	shares := "some"
	switch a, b := len(grove.Led(c.v, c.a)), len(grove.Led(c.v, c.b)); len(sharedPages(c.v, c.a, c.b)) {
	case 0:
		shares = "none"
	case a:
		shares = "all of a"
		if a == b {
			shares = "all"
		}
	case b:
		shares = "all of b"
	}
	switch {
	case c.a == empty || c.b == empty:
		return "an empty one"
	case c.a.Height == c.b.Height:
		return shares + ", alike"
	case c.a.Height < c.b.Height:
		return shares + ", b higher"
	}
	return shares + ", a higher"
}

// ranges is ranges of all kinds.
func (c couple) ranges(r *draw.Numbers, n int) []api.Range {
	l := []api.Range{allKeys, {}, {Hi: []byte{0xff}, Open: true}, {Lo: []byte{0}, Hi: bytes.Repeat([]byte{0xff}, maxKey+1)}}
	rows := c.grown.Rows(r, 12)
	for range n {
		lo, hi := rows[r.Below(len(rows))], rows[r.Below(len(rows))]
		if k := len(c.grown.Pairs); k > 0 && r.Below(2) == 0 {
			at := r.Below(k)
			lo, hi = c.grown.Pairs[at].Key, c.grown.Pairs[min(k-1, at+r.Below(6))].Key
		}
		l = append(l, api.Range{Lo: lo, Hi: hi, Open: r.Below(4) == 0})
	}
	return l
}

// tells: what is told of two trees, each of which stands by itself, is what the chapter
// says, and the vault is as it was. What differs is the answer.
func (c couple) tells(t *testing.T, r *draw.Numbers) []api.Change {
	t.Helper()
	before, mark := grove.StoreFrom(c.v), c.v.Mark()
	want := modelList(pairs(t, c.v, c.a), pairs(t, c.v, c.b))
	what := fmt.Sprintf("of %v and %v", c.a, c.b)
	equalChanges(t, "List "+what, list(t, c.v, c.a, c.b, allKeys), want)
	equalChanges(t, "Walk "+what, slices.Collect(diff.Walk(c.v, c.a, c.b)), want)
	equalLists(t, "Read "+what, read(t, c.v, c.a, c.b), modelRead(c.v, c.a, c.b))
	for _, k := range c.ranges(r, 6) {
		equalChanges(t, fmt.Sprintf("List %s by %s", what, text(k)), list(t, c.v, c.a, c.b, k), in(want, k))
	}
	equal(t, "a page that is not as it was, behind a look", before.Differs(c.v), 0)
	equal(t, "Mark behind a look", c.v.Mark(), mark)
	return want
}
