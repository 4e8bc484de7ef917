package merge_test

import (
	"bytes"
	"fmt"
	"slices"
	"testing"

	"coppice/api"
	"coppice/cut"
	"coppice/draw"
	"coppice/fork"
	"coppice/grove"
	"coppice/merge"
	"coppice/put"
	"coppice/vault"
)

// trio is three trees that stand together in a vault; two or three of them may be one and
// the same tree, which stands there only once then.
type trio struct {
	v                  *vault.Vault
	base, ours, theirs api.Tree
	beside             []api.Tree // what stands there beside ours: base and theirs, unless they are ours itself
	grown              *grove.Grown
}

// trioOf is three trees, each of which stands there for itself.
func trioOf(v *vault.Vault, base, ours, theirs api.Tree, g *grove.Grown) trio {
	return trio{v, base, ours, theirs, []api.Tree{base, theirs}, g}
}

// someTrio is three trees that share all, some or none of their pages; at times two or
// three of them are one and the same, or the empty tree is among them.
func someTrio(t *testing.T, r *draw.Numbers, height int) trio {
	t.Helper()
	var c trio
	switch r.Below(6) {
	case 0:
		c = strangers(t, r, height)
	case 1, 2:
		c = relatives(t, r, height)
	default:
		c = siblings(t, r, height, r.Below(16))
	}
	if r.Below(4) == 0 {
		return c.joined(t, r.Below(ways))
	}
	return c
}

// ways is in how many ways three trees can become two or one.
const ways = 8

// joined is the trio with one tree in the place of another one, which is dropped.
func (c trio) joined(t *testing.T, way int) trio {
	t.Helper()
	var gone []api.Tree
	base, ours, theirs := c.base, c.ours, c.theirs
	switch way {
	case 0:
		gone, c.base, c.beside = []api.Tree{base}, ours, []api.Tree{theirs}
	case 1:
		gone, c.theirs, c.beside = []api.Tree{theirs}, ours, []api.Tree{base}
	case 2:
		gone, c.theirs, c.beside = []api.Tree{theirs}, base, []api.Tree{base}
	case 3:
		gone, c.base, c.theirs, c.beside = []api.Tree{base, theirs}, ours, ours, nil
	case 4:
		gone, c.base, c.beside = []api.Tree{base}, empty, []api.Tree{theirs}
	case 5:
		gone, c.ours, c.beside = []api.Tree{ours}, empty, []api.Tree{base, theirs}
	case 6:
		gone, c.theirs, c.beside = []api.Tree{theirs}, empty, []api.Tree{base}
	case 7:
		gone, c.ours, c.theirs, c.beside = []api.Tree{ours, theirs}, empty, empty, []api.Tree{base}
	}
	for _, x := range gone {
		equal(t, "Drop", fork.Drop(c.v, x), 0)
	}
	return c
}

// tending is how both sides of a tree are tended: with keys and values that come often, so
// that they meet.
type tending struct {
	r    *draw.Numbers
	v    *vault.Vault
	g    *grove.Grown
	keys [][]byte
}

// tended is a tree into which a key is put, or out of which one is cut.
func (c *tending) tended(t *testing.T, x api.Tree) api.Tree {
	t.Helper()
	key := c.g.SomeKey(c.r)
	if len(c.keys) > 0 && c.r.Below(3) > 0 {
		key = c.keys[c.r.Below(len(c.keys))]
	}
	if c.r.Below(3) > 0 {
		c.keys = append(c.keys, key)
	}
	var e api.Errno
	if c.r.Below(3) == 0 {
		x, _, e = cut.Cut(c.v, x, key)
	} else {
		x, _, e = put.Put(c.v, x, key, someValue(c.r))
	}
	equal(t, "tending a tree", e, 0)
	return x
}

// someValue is one of a few values, the empty one and long ones among them.
func someValue(r *draw.Numbers) []byte {
	switch r.Below(8) {
	case 0:
		return value(inline + r.Below(2))
	case 1:
		return value(chunk + r.Below(2))
	case 2:
		return turned(value(chunk+1), chunk)
	case 3:
		return value(1000)
	}
	return bytes.Repeat([]byte("v"), r.Below(3))
}

// siblings is a tree and two that came of it by Clone, or the second one of the first; all
// are tended then, so many times.
func siblings(t *testing.T, r *draw.Numbers, height, times int) trio {
	t.Helper()
	g := grove.Any(r, height)
	s, trees := grove.Setting{Refs: 20, More: 80 + 14*times, Lasting: r.Below(5)}.Lay(r, g)
	v := vaultOf(t, s)
	c := &tending{r: r, v: v, g: g}
	clone := func(x api.Tree) api.Tree {
		y, e := fork.Clone(v, x)
		equal(t, "Clone", e, 0)
		return y
	}
	l := []api.Tree{trees[0], clone(trees[0])}
	from := r.Below(4) / 3
	if from == 1 {
		for range 1 + r.Below(4) {
			l[1] = c.tended(t, l[1])
		}
	}
	l = append(l, clone(l[from]))
	for range times {
		k := []int{1, 2, 1, 2, 1, 2, 0}[r.Below(7)]
		l[k] = c.tended(t, l[k])
		if r.Below(9) == 0 {
			v.Settle()
		}
	}
	if r.Below(8) == 0 { // whichever came first
		l = append(l[1:], l[0])
	}
	return trioOf(v, l[0], l[1], l[2], g)
}

// strangers is three trees that share no page; of their keys they share many. Their heights
// are unlike at times.
func strangers(t *testing.T, r *draw.Numbers, height int) trio {
	t.Helper()
	g := grove.Any(r, height)
	s, trees := grove.Setting{Refs: 20, More: 60 + 3*len(g.Pages) + 2*len(g.Pairs), Lasting: r.Below(5)}.Lay(r, g)
	v := vaultOf(t, s)
	l := []api.Tree{trees[0], built(t, v, strange(r, g.Pairs)), built(t, v, strange(r, g.Pairs))}
	from := r.Below(3)
	return trioOf(v, l[from], l[(from+1)%3], l[(from+2)%3], g)
}

// strange is pairs some of which are others, or a part of them.
func strange(r *draw.Numbers, pairs []api.Pair) []api.Pair {
	var l []api.Pair
	for _, x := range pairs {
		switch r.Below(8) {
		case 0, 1:
			x.Value = someValue(r)
		case 2:
			continue
		case 3:
			x.Key = append(slices.Clip(x.Key[:min(len(x.Key), maxKey-1)]), byte(r.Below(2)))
		}
		if n := len(l); n == 0 || bytes.Compare(l[n-1].Key, x.Key) < 0 {
			l = append(l, x)
		}
	}
	if r.Below(3) == 0 { // of any height
		from := r.Below(len(l) + 1)
		l = l[from : from+r.Below(len(l)-from+1)]
	}
	return l
}

// regrowing makes a tree out of another one by hand: of what stands on pages some stays
// where it is.
type regrowing struct {
	r     *draw.Numbers
	pages []api.Page
}

// relatives is a tree and two that were made of it, or of parts of it, by hand, or the
// second one of the first.
func relatives(t *testing.T, r *draw.Numbers, height int) trio {
	t.Helper()
	g := grove.Any(r, height)
	x := &regrowing{r, slices.Clone(g.Pages)}
	some := func() api.Tree {
		level := len(g.Levels) - 1
		if r.Below(4) == 0 {
			level = r.Below(len(g.Levels))
		}
		return x.tree(g.Levels[level][r.Below(len(g.Levels[level]))].No)
	}
	l := []api.Tree{g.Tree, some(), some()}
	if r.Below(3) == 0 {
		l[2] = x.tree(l[1].Root)
	}
	s := grove.StoreOf(9, x.pages, 100)
	for n, c := range grove.Led(vaultOf(t, s), l...) {
		s.Counts[n-1] = c
	}
	for k, c := range s.Counts {
		s.Lasts[k] = min(c, r.Below(2))
	}
	v, from := vaultOf(t, s), r.Below(5)%3
	stand(t, v, l...)
	return trioOf(v, l[from], l[(from+1)%3], l[(from+2)%3], g)
}

func (x *regrowing) lay(p api.Page) int {
	x.pages = append(x.pages, p)
	return len(x.pages)
}

// tree is a tree in the place of what is beneath a page.
func (x *regrowing) tree(n int) api.Tree {
	root := x.page(n, nil)
	return tree(root, x.pages[root-1].Level+1, x.keys(root))
}

// page is a page in the place of another one, or that one itself; keys that come new to
// it must be below hi, if that is one.
func (x *regrowing) page(n int, hi []byte) int {
	if x.r.Below(3) == 0 {
		return n
	}
	p := x.pages[n-1]
	p.Items = slices.Clone(p.Items)
	for k := range p.Items {
		next := hi
		if k+1 < len(p.Items) {
			next = p.Items[k+1].Key
		}
		if p.Kind == indexKind {
			p.Items[k].Child = x.page(p.Items[k].Child, next)
		} else {
			p.Items[k] = x.item(p.Items[k], next)
		}
	}
	if len(p.Items) > least && x.r.Below(2) == 0 {
		at := x.r.Below(len(p.Items))
		p.Items = slices.Delete(p.Items, at, at+1)
		if p.Kind == indexKind {
			p.Items[0].Key = nil
		}
	}
	return x.lay(p)
}

// item is an item of a leaf in the place of another one; its key must be below next, if
// that is one.
func (x *regrowing) item(i api.Item, next []byte) api.Item {
	switch x.r.Below(6) {
	case 0: // another key, with the same value
		key := append(slices.Clip(i.Key), 0)
		if len(key) <= maxKey && (next == nil || bytes.Compare(key, next) < 0) {
			i.Key = key
		}
	case 1: // another short value
		i.Value, i.Child = bytes.Repeat([]byte("v"), x.r.Below(3)), 0
		i.Size = len(i.Value)
	case 2: // the same value, or another one of its length, on pages some of which are others
		if i.Child != 0 {
			i.Child = x.blob(i.Child)
		} else if i.Size > 0 && x.r.Below(2) == 0 {
			i.Value = turned(i.Value, x.r.Below(i.Size))
		}
	case 3: // a long value's first page is left out
		if first := i.Child; first != 0 && i.Size > chunk+inline {
			i.Child, i.Size = x.pages[first-1].Next, i.Size-chunk
		}
	}
	return i
}

// blob is a value's page in the place of another one, or that one itself.
func (x *regrowing) blob(n int) int {
	if n == 0 || x.r.Below(4) == 0 {
		return n
	}
	p := x.pages[n-1]
	if x.r.Below(2) == 0 {
		p.Data = turned(p.Data, x.r.Below(len(p.Data)))
	}
	p.Next = x.blob(p.Next)
	return x.lay(p)
}

// keys is how many keys there are from a page on.
func (x *regrowing) keys(n int) int {
	p := x.pages[n-1]
	if p.Kind == leafKind {
		return len(p.Items)
	}
	sum := 0
	for _, i := range p.Items {
		sum += x.keys(i.Child)
	}
	return sum
}

// among is the same trio in another vault, a store's.
func (c trio) among(t *testing.T, s *grove.Store) trio {
	t.Helper()
	c.v = vaultOf(t, s)
	return c
}

// wider is the same trio in a vault with so many free pages more.
func (c trio) wider(t *testing.T, n int) trio {
	t.Helper()
	s := grove.StoreFrom(c.v)
	s.On = append(s.On, make([]api.Page, n)...)
	s.Counts, s.Lasts = append(s.Counts, make([]int, n)...), append(s.Lasts, make([]int, n)...)
	return c.among(t, s)
}

// rows is what the three have at all keys.
func (c trio) rows(t *testing.T) []row {
	t.Helper()
	return modelRows(pairs(t, c.v, c.base), pairs(t, c.v, c.ours), pairs(t, c.v, c.theirs))
}

// shared is the pages that are reached from all three.
func (c trio) shared() []int {
	led := [3]map[int]int{grove.Led(c.v, c.base), grove.Led(c.v, c.ours), grove.Led(c.v, c.theirs)}
	var l []int
	for n := 1; n <= c.v.Len(); n++ {
		if led[0][n] > 0 && led[1][n] > 0 && led[2][n] > 0 {
			l = append(l, n)
		}
	}
	return l
}

// share tells how many of their pages all three share.
func (c trio) share() string {
	all := len(grove.Led(c.v, c.base, c.ours, c.theirs))
	switch len(c.shared()) {
	case 0:
		return "none shared"
	case all:
		return "all shared"
	}
	return "some shared"
}

// alike tells which of them are one tree, or empty ones.
func (c trio) alike() string {
	name := "three trees"
	switch {
	case c.base == c.ours && c.ours == c.theirs:
		name = "one tree"
	case c.base == c.ours:
		name = "base is ours"
	case c.base == c.theirs:
		name = "base is theirs"
	case c.ours == c.theirs:
		name = "ours is theirs"
	}
	for k, x := range []api.Tree{c.base, c.ours, c.theirs} {
		if x == empty {
			name += ", no " + []string{"base", "ours", "theirs"}[k]
		}
	}
	return name
}

// heights tells how their heights are.
func (c trio) heights() string {
	if c.base.Height == c.ours.Height && c.ours.Height == c.theirs.Height {
		return "alike"
	}
	return "unlike"
}

// tells is a Conflicts that is held against the chapter; it changes nothing.
func (c trio) tells(t *testing.T) []api.Conflict {
	t.Helper()
	what := fmt.Sprintf("Conflicts(%v, %v, %v)", c.base, c.ours, c.theirs)
	before, mark := grove.StoreFrom(c.v), c.v.Mark()
	l, e := merge.Conflicts(c.v, c.base, c.ours, c.theirs)
	equal(t, what, e, 0)
	equalConflicts(t, what, l, modelConflicts(c.rows(t)))
	for k := 1; k < len(l); k++ {
		equal(t, what+": the keys rise", bytes.Compare(l[k-1].Key, l[k].Key), -1)
	}
	equal(t, what+": a page that is not as it was", before.Differs(c.v), 0)
	equal(t, what+": Mark", c.v.Mark(), mark)
	return l
}

// merges is a Merge that is held against the chapter; behind it the vault is as Merge left
// it.
func (c trio) merges(t *testing.T, rule int) came {
	t.Helper()
	what := fmt.Sprintf("Merge(%v, %v, %v, %d)", c.base, c.ours, c.theirs, rule)
	rows := c.rows(t)
	before, mark, sums := grove.StoreFrom(c.v), c.v.Mark(), tallies(c.v)
	want := modelMerge(t, before, c.ours, rows, rule)
	c.answers(t, rule, want)
	stayed(t, before, c.v, c.beside)
	if want.e != 0 {
		equal(t, what+": the tallies", tallies(c.v), sums)
		equal(t, what+": Mark", c.v.Mark(), mark)
		equal(t, what+": Undo(Mark + 1)", c.v.Undo(mark+1), false)
		equal(t, what+": Undo(Mark)", c.v.Undo(mark), true)
		equal(t, what+": a page that is not as it was", before.Differs(c.v), 0)
		return want
	}
	equal(t, what+": its pairs", toldPairs(pairs(t, c.v, want.tree)), toldPairs(modelPairs(rows, rule)))
	stand(t, c.v, append([]api.Tree{want.tree}, c.beside...)...)
	equal(t, what+": Mark is not below what it was", c.v.Mark() >= mark, true)
	equal(t, what+": Undo", c.v.Undo(mark), true)
	equal(t, what+": a page that is not as it was, behind Undo", before.Differs(c.v), 0)
	c.answers(t, rule, want)
	return want
}

// answers is a Merge that must answer this, and leave the store so.
func (c trio) answers(t *testing.T, rule int, want came) {
	t.Helper()
	what := fmt.Sprintf("Merge(%v, %v, %v, %d)", c.base, c.ours, c.theirs, rule)
	x, l, e := merge.Merge(c.v, c.base, c.ours, c.theirs, rule)
	equal(t, what, fmt.Sprint(x, e), fmt.Sprint(want.tree, want.e))
	equalConflicts(t, what, l, want.conflicts)
	equal(t, what+": a page that is not as puts and cuts make it", want.then.Differs(c.v), 0)
}
