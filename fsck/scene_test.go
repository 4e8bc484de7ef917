package fsck_test

import (
	"fmt"
	"slices"
	"testing"

	"coppice/api"
	"coppice/bank"
	"coppice/bulk"
	"coppice/cut"
	"coppice/diff"
	"coppice/disk"
	"coppice/draw"
	"coppice/fork"
	"coppice/grove"
	"coppice/merge"
	"coppice/page"
	"coppice/put"
	"coppice/super"
	"coppice/vault"
)

// wood is a vault with trees that stand there together, and nothing else in it.
type wood struct {
	v     *vault.Vault
	trees []api.Tree
	keys  [][]byte // that come often, so that trees meet
	r     *draw.Numbers
	met   met
}

// newWood is a wood of no trees.
func newWood(t *testing.T, r *draw.Numbers, pages, refs int) *wood {
	t.Helper()
	w := &wood{v: newVault(t, pages, refs), r: r, met: met{}}
	for range 40 {
		w.keys = append(w.keys, grove.Key(r))
	}
	return w
}

// grownWood is a wood of a tree that was made by hand, of a few clones of it, and of what
// comes of them in so many steps.
func grownWood(t *testing.T, r *draw.Numbers, g *grove.Grown, more, steps int) *wood {
	t.Helper()
	s, trees := grove.Setting{Refs: 4 + r.Below(9), Clones: r.Below(4), More: more, Lasting: r.Below(5)}.Lay(r, g)
	for k, p := range s.On {
		if p.Kind == 0 && r.Below(5) == 0 { // something lasts there to which nothing leads
			s.On[k], s.Lasts[k] = part(9, k), 1
		}
	}
	w := &wood{v: vaultOf(t, s), trees: trees, r: r, met: met{}}
	for _, x := range g.Pairs {
		w.keys = append(w.keys, x.Key)
	}
	for range 20 {
		w.keys = append(w.keys, grove.Key(r))
	}
	for range steps {
		w.step()
	}
	return w
}

// someWood is a wood of any kind.
func someWood(t *testing.T, r *draw.Numbers, pages, steps int) *wood {
	t.Helper()
	if r.Below(2) == 0 {
		return grownWood(t, r, grove.Any(r, 1+r.Below(3)), 20+pages/2, steps)
	}
	w := newWood(t, r, pages, 3+r.Below(12))
	for range steps {
		w.step()
	}
	return w
}

// most trees that a wood has.
const mostTrees = 12

// step does something with one of the trees, or with several; what cannot be done changes
// nothing.
func (w *wood) step() {
	ways := []struct {
		name string
		do   func(*wood) api.Errno
	}{
		{"put", (*wood).put}, {"put", (*wood).put}, {"put", (*wood).put}, {"cut", (*wood).cut}, {"cut", (*wood).cut},
		{"clone", (*wood).clone}, {"clone", (*wood).clone}, {"drop", (*wood).drop}, {"build", (*wood).build},
		{"load", (*wood).load}, {"trim", (*wood).trim}, {"apply", (*wood).apply}, {"merge", (*wood).merge},
		{"make", (*wood).make}, {"settle", (*wood).settle}, {"undo", (*wood).undo},
	}
	way := ways[w.r.Below(len(ways))]
	if len(w.trees) == 0 {
		way.name, way.do = "build", (*wood).build
	}
	w.met[fmt.Sprint(way.name, " ", int(way.do(w)))]++
}

// some is the place of one of the trees.
func (w *wood) some() int { return w.r.Below(len(w.trees)) }

func (w *wood) key() []byte { return w.keys[w.r.Below(len(w.keys))] }

func (w *wood) pair() api.Pair {
	x := api.Pair{Key: w.key(), Value: grove.Value(w.r.Below(4))}
	if w.r.Below(4) == 0 {
		sizes := grove.Sizes()
		x.Value = grove.Value(sizes[w.r.Below(len(sizes))])
	}
	return x
}

// became lets a tree be in the place of another one, if there was no error.
func (w *wood) became(at int, x api.Tree, e api.Errno) api.Errno {
	if e == 0 {
		w.trees[at] = x
	}
	return e
}

// came lets a tree be there beside the others, if there was no error.
func (w *wood) came(x api.Tree, e api.Errno) api.Errno {
	if e == 0 {
		w.trees = append(w.trees, x)
	}
	return e
}

func (w *wood) put() api.Errno {
	at, p := w.some(), w.pair()
	x, _, e := put.Put(w.v, w.trees[at], p.Key, p.Value)
	return w.became(at, x, e)
}

func (w *wood) cut() api.Errno {
	at := w.some()
	x, _, e := cut.Cut(w.v, w.trees[at], w.key())
	return w.became(at, x, e)
}

func (w *wood) clone() api.Errno {
	if len(w.trees) == mostTrees {
		return w.drop()
	}
	return w.came(fork.Clone(w.v, w.trees[w.some()]))
}

func (w *wood) drop() api.Errno {
	at := w.some()
	e := fork.Drop(w.v, w.trees[at])
	if e == 0 {
		w.trees = without(w.trees, at)
	}
	return e
}

func (w *wood) build() api.Errno {
	if len(w.trees) == mostTrees {
		return w.drop()
	}
	return w.came(bulk.Build(w.v, grove.Pairs(w.r, max(0, w.r.Below(40)-10), 2000)))
}

func (w *wood) load() api.Errno {
	at := w.some()
	var l []api.Pair
	for range w.r.Below(6) {
		l = append(l, w.pair())
	}
	x, _, e := bulk.Load(w.v, w.trees[at], l)
	return w.became(at, x, e)
}

func (w *wood) trim() api.Errno {
	at, lo := w.some(), w.key()
	r := api.Range{Lo: lo, Hi: append(slices.Clip(lo[:w.r.Below(len(lo)+1)]), 0xfe)}
	x, _, e := bulk.Trim(w.v, w.trees[at], r)
	return w.became(at, x, e)
}

// apply lets a tree become what another one is.
func (w *wood) apply() api.Errno {
	at := w.some()
	l, e := diff.List(w.v, w.trees[at], w.trees[w.some()], allKeys)
	if e != 0 {
		return e
	}
	x, e := diff.Apply(w.v, w.trees[at], l)
	return w.became(at, x, e)
}

func (w *wood) merge() api.Errno {
	if len(w.trees) < 3 {
		return w.clone()
	}
	l := grove.Shuffle(w.r, len(w.trees))
	ours := l[1] - 1
	x, _, e := merge.Merge(w.v, w.trees[l[0]-1], w.trees[ours], w.trees[l[2]-1], w.r.Below(3))
	return w.became(ours, x, e)
}

// make lays a tree down page by page.
func (w *wood) make() api.Errno {
	if len(w.trees) == mostTrees || w.v.Tally(free) < 9 {
		return w.drop()
	}
	made := func(p api.Page) int {
		n, _ := w.v.Make(p)
		return n
	}
	left := made(leafOf("abcdefgh"[:4+w.r.Below(5)], 481, made(part(480, made(part(1, 0))))))
	right := made(leafOf("mnopqrst"[:4+w.r.Below(5)], 33, made(part(33, 0))))
	root := made(index(1, "k", left, right))
	items := 0
	for _, n := range []int{left, right} {
		p, _ := w.v.Read(n)
		items += len(p.Items)
	}
	return w.came(tree(root, 2, items), 0)
}

func (w *wood) settle() api.Errno {
	w.v.Settle()
	return 0
}

// undo undoes a few steps.
func (w *wood) undo() api.Errno {
	mark, trees := w.v.Mark(), slices.Clone(w.trees)
	for range 3 {
		switch w.r.Below(3) {
		case 0:
			w.build()
		case 1:
			w.clone()
		}
		if len(w.trees) > 0 {
			w.put()
		}
	}
	w.v.Undo(mark)
	w.trees = trees
	return 0
}

// roots is roots of the trees, in any order, with ids of any kind.
func (w *wood) roots() []api.Root {
	var l []api.Root
	for _, at := range grove.Shuffle(w.r, len(w.trees)) {
		l = append(l, api.Root{Id: anyId(w.r), Tree: w.trees[at-1]})
	}
	return l
}

func anyId(r *draw.Numbers) int {
	return []int{lowest, -1, 0, 1, 1, 2, 7, maxId, maxId + 1, greatest}[r.Below(10)]
}

// lying is a forest on a disk, block by block.
type lying struct {
	blocks [][]byte
	s      api.Super
	plan   api.Plan
}

// configOf is a config of a disk of so many pages.
func configOf(t *testing.T, r *draw.Numbers, pages, refs, clones int) api.Config {
	t.Helper()
	blocks := 2 + 2*((pages+239)/240) + pages
	if pages%240 == 0 { // so many blocks are left over
		blocks += r.Below(3)
	}
	c := api.Config{Blocks: blocks, Clones: max(1, clones+r.Below(17-clones)), Refs: refs}
	plan, e := super.Plan(c)
	equal(t, "Plan", e, 0)
	equal(t, "pages of the plan", plan.Pages, pages)
	return c
}

// someGen is a generation.
func someGen(r *draw.Numbers) int {
	return []int{0, 1, 2, 3, 258, maxGen - 1, maxGen, r.Below(maxGen)}[r.Below(8)]
}

// risingRoots is roots of trees, with ids that rise; and the next id.
func risingRoots(r *draw.Numbers, trees []api.Tree) ([]api.Root, int) {
	var l []api.Root
	id := 0
	for _, x := range trees {
		id += 1 + r.Below(3)
		l = append(l, api.Root{Id: id, Tree: x})
	}
	return l, id + 1 + r.Below(3)
}

// lay lays what a vault has down on a disk, whole for these trees.
func lay(t *testing.T, r *draw.Numbers, v *vault.Vault, trees []api.Tree) *lying {
	t.Helper()
	f := &lying{s: api.Super{Gen: someGen(r), Config: configOf(t, r, v.Len(), v.Refs(), len(trees))}}
	f.s.Roots, f.s.Next = risingRoots(r, trees)
	f.plan, _ = super.Plan(f.s.Config)
	f.blocks = make([][]byte, f.s.Config.Blocks)
	for at := range f.blocks {
		f.blocks[at] = f.junk(t, r, at)
	}
	f.layBank(t, v.Counts())
	for k, c := range v.Counts() {
		if c > 0 {
			p, _ := v.Read(k + 1)
			f.layPage(t, k+1, older(r, f.s.Gen), p)
		}
	}
	return f
}

// older is a generation that is not above another one.
func older(r *draw.Numbers, gen int) int {
	return []int{gen, gen, 0, r.Below(gen + 1)}[r.Below(4)]
}

func (f *lying) layPage(t *testing.T, no, gen int, p api.Page) {
	t.Helper()
	b, e := page.Encode(no, gen, p)
	equal(t, "page.Encode", e, 0)
	f.blocks[f.blockOf(no)] = b
}

func (f *lying) layBank(t *testing.T, counts []int) {
	t.Helper()
	l, e := bank.Encode(f.s.Gen, counts)
	equal(t, "bank.Encode", e, 0)
	equal(t, "blocks of the bank", len(l), f.plan.Bank)
	copy(f.blocks[f.bank():], l)
}

// blockOf is the block of a page; bank is the first one of the bank.
func (f *lying) blockOf(no int) int { return f.plan.First + no - 1 }

func (f *lying) bank() int { return 2 + f.s.Gen%2*f.plan.Bank }

// disk is the disk; what lies there lasts.
func (f *lying) disk(t *testing.T) *disk.Disk {
	t.Helper()
	d, e := disk.From(slices.Concat(f.blocks...))
	equal(t, "disk.From", e, 0)
	return d
}

// junk is what may lie on a block that is none of the forest: bytes of any kind, and such
// as look as if they were of one.
func (f *lying) junk(t *testing.T, r *draw.Numbers, at int) []byte {
	t.Helper()
	gen := []int{f.s.Gen, max(0, f.s.Gen-1), min(maxGen, f.s.Gen+1), r.Below(9)}[r.Below(4)]
	kinds := 6
	if f.plan.Pages > 1000 { // banks take long then
		kinds = 3
	}
	switch r.Below(kinds) {
	case 0:
		return r.Bytes(blockSize)
	case 1, 2: // also one that lies in a block of another page
		no := max(1, at-f.plan.First+1-r.Below(6)/5)
		b, e := page.Encode(no, gen, grove.AnyPage(r, f.plan.Pages))
		equal(t, "page.Encode", e, 0)
		return b
	case 3:
		counts := make([]int, f.plan.Pages)
		for k := range counts {
			counts[k] = r.Below(3)
		}
		l, e := bank.Encode(gen, counts)
		equal(t, "bank.Encode", e, 0)
		return l[r.Below(len(l))]
	case 4:
		s := f.s
		s.Gen = gen
		b, e := super.Encode(s)
		equal(t, "super.Encode", e, 0)
		return b
	}
	return make([]byte, blockSize)
}

// own is the blocks that are the forest's: those of its bank, and of pages whose count is
// above 0; others is all other blocks.
func (f *lying) own(counts []int) []int {
	var l []int
	for i := range f.plan.Bank {
		l = append(l, f.bank()+i)
	}
	for k, c := range counts {
		if c > 0 {
			l = append(l, f.blockOf(k+1))
		}
	}
	return l
}

func (f *lying) others(counts []int) []int {
	var l []int
	own := f.own(counts)
	for at := range f.blocks {
		if !slices.Contains(own, at) {
			l = append(l, at)
		}
	}
	return l
}
