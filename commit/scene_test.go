package commit_test

import (
	"bytes"
	"fmt"
	"maps"
	"slices"
	"testing"

	"coppice/api"
	"coppice/bulk"
	"coppice/commit"
	"coppice/cut"
	"coppice/diff"
	"coppice/disk"
	"coppice/draw"
	"coppice/fork"
	"coppice/grove"
	"coppice/merge"
	"coppice/put"
	"coppice/span"
	"coppice/vault"
	"coppice/walk"
)

// wood is a vault with trees that have ids, and nothing else in it; with what they must
// tell; and the superblock that lasts.
type wood struct {
	s      api.Super
	v      *vault.Vault
	next   int
	roots  []api.Root
	family family
	keys   [][]byte // that come often, so that trees meet
	r      *draw.Numbers
	met    met
}

// family is, by the ids, the map from keys to values of each tree.
type family map[int]map[string]string

func (f family) copy() family {
	g := family{}
	for id, m := range f {
		g[id] = maps.Clone(m)
	}
	return g
}

// told is a family as a text.
func (f family) told() string {
	text := ""
	for _, id := range slices.Sorted(maps.Keys(f)) {
		text += fmt.Sprintf("%d:", id)
		for _, k := range slices.Sorted(maps.Keys(f[id])) {
			text += fmt.Sprintf(" %x=%x", k, f[id][k])
		}
	}
	return text
}

// familyOf is what the trees of roots tell.
func familyOf(t *testing.T, v *vault.Vault, l []api.Root) family {
	t.Helper()
	f := family{}
	for _, r := range l {
		pairs, e := walk.List(v, r.Tree, allKeys)
		equal(t, "List", e, 0)
		f[r.Id] = map[string]string{}
		for _, x := range pairs {
			f[r.Id][string(x.Key)] = string(x.Value)
		}
	}
	return f
}

// newWood is a wood of no trees over a disk that was formatted.
func newWood(t *testing.T, r *draw.Numbers, c api.Config) (*disk.Disk, *wood) {
	t.Helper()
	d, s, v := formatted(t, c)
	w := &wood{s: s, v: v, next: s.Next, family: family{}, r: r, met: met{}}
	for range 40 {
		w.keys = append(w.keys, grove.Key(r))
	}
	return d, w
}

// coming is the superblock that is written next.
func (w *wood) coming() api.Super {
	return api.Super{Gen: w.s.Gen + 1, Config: w.s.Config, Next: w.next, Roots: slices.Clone(w.roots)}
}

// steps does so many steps.
func (w *wood) steps(n int) {
	for range n {
		w.step()
	}
}

// step does something with one of the trees, or with several; what cannot be done changes
// nothing.
func (w *wood) step() {
	ways := []struct {
		name string
		do   func(*wood) api.Errno
	}{
		{"put", (*wood).put}, {"put", (*wood).put}, {"put", (*wood).put}, {"put", (*wood).put}, {"cut", (*wood).cut}, {"cut", (*wood).cut},
		{"clone", (*wood).clone}, {"clone", (*wood).clone}, {"drop", (*wood).drop}, {"plant", (*wood).plant},
		{"load", (*wood).load}, {"trim", (*wood).trim}, {"apply", (*wood).apply}, {"merge", (*wood).merge}, {"undo", (*wood).undo},
	}
	way := ways[w.r.Below(len(ways))]
	if len(w.roots) == 0 {
		way.name, way.do = "plant", (*wood).plant
	}
	w.met[fmt.Sprint(way.name, " ", int(way.do(w)))]++
}

// some is one of the roots; has is its map.
func (w *wood) some() *api.Root { return &w.roots[w.r.Below(len(w.roots))] }

func (w *wood) has(x *api.Root) map[string]string { return w.family[x.Id] }

func (w *wood) key() []byte { return w.keys[w.r.Below(len(w.keys))] }

func (w *wood) pair() api.Pair {
	x := api.Pair{Key: w.key(), Value: w.r.Bytes(w.r.Below(4))}
	if w.r.Below(3) == 0 {
		sizes := grove.Sizes()
		x.Value = w.r.Bytes(sizes[w.r.Below(len(sizes))])
	}
	return x
}

// came lets a tree be there beside the others, with these pairs.
func (w *wood) came(x api.Tree, has map[string]string) {
	w.roots = append(w.roots, api.Root{Id: w.next, Tree: x})
	w.family[w.next] = has
	w.next += 1 + w.r.Below(5)/4*w.r.Below(9)
}

func (w *wood) isFull() bool { return len(w.roots) == w.s.Config.Clones }

func (w *wood) plant() api.Errno {
	if w.isFull() {
		return w.drop()
	}
	w.came(api.Tree{}, map[string]string{})
	return 0
}

func (w *wood) clone() api.Errno {
	if w.isFull() {
		return w.drop()
	}
	from := w.some()
	x, e := fork.Clone(w.v, from.Tree)
	if e == 0 {
		w.came(x, maps.Clone(w.has(from)))
	}
	return e
}

func (w *wood) drop() api.Errno {
	x := w.some()
	e := fork.Drop(w.v, x.Tree)
	if e == 0 {
		delete(w.family, x.Id)
		w.roots = slices.DeleteFunc(w.roots, func(r api.Root) bool { return r.Id == x.Id })
	}
	return e
}

func (w *wood) put() api.Errno {
	at, p := w.some(), w.pair()
	x, _, e := put.Put(w.v, at.Tree, p.Key, p.Value)
	if e == 0 {
		at.Tree = x
		w.has(at)[string(p.Key)] = string(p.Value)
	}
	return e
}

func (w *wood) cut() api.Errno {
	at, key := w.some(), w.key()
	x, _, e := cut.Cut(w.v, at.Tree, key)
	if e == 0 {
		at.Tree = x
		delete(w.has(at), string(key))
	}
	return e
}

func (w *wood) load() api.Errno {
	at := w.some()
	var l []api.Pair
	for range w.r.Below(12) {
		l = append(l, w.pair())
	}
	x, _, e := bulk.Load(w.v, at.Tree, l)
	if e != 0 {
		return e
	}
	at.Tree = x
	for _, p := range l {
		w.has(at)[string(p.Key)] = string(p.Value)
	}
	return 0
}

func (w *wood) trim() api.Errno {
	at, lo := w.some(), w.key()
	r := api.Range{Lo: lo, Hi: append(slices.Clip(lo[:w.r.Below(len(lo)+1)]), 0xfe)}
	x, _, e := bulk.Trim(w.v, at.Tree, r)
	if e == 0 {
		at.Tree = x
		maps.DeleteFunc(w.has(at), func(k, _ string) bool { return span.Has(r, []byte(k)) })
	}
	return e
}

// apply lets a tree become what another one is.
func (w *wood) apply() api.Errno {
	at, other := w.some(), w.some()
	l, e := diff.List(w.v, at.Tree, other.Tree, allKeys)
	if e != 0 {
		return e
	}
	x, e := diff.Apply(w.v, at.Tree, l)
	if e == 0 {
		at.Tree = x
		w.family[at.Id] = maps.Clone(w.has(other))
	}
	return e
}

// merge puts two trees together; any third one is taken for their base.
func (w *wood) merge() api.Errno {
	base, ours, theirs := w.some(), w.some(), w.some()
	x, _, e := merge.Merge(w.v, base.Tree, ours.Tree, theirs.Tree, api.MergeTheirs)
	if e != 0 {
		return e
	}
	was, now := maps.Clone(w.has(base)), maps.Clone(w.has(theirs))
	ours.Tree = x
	for _, m := range []map[string]string{was, now} {
		for k := range m {
			a, wasThere := was[k]
			b, isThere := now[k]
			switch {
			case wasThere && !isThere:
				delete(w.has(ours), k)
			case isThere && (!wasThere || a != b):
				w.has(ours)[k] = b
			}
		}
	}
	return 0
}

// undo undoes a few steps.
func (w *wood) undo() api.Errno {
	mark, roots, family, next := w.v.Mark(), slices.Clone(w.roots), w.family.copy(), w.next
	for range 1 + w.r.Below(3) {
		[]func() api.Errno{w.put, w.cut, w.load, w.trim}[w.r.Below(4)]()
	}
	w.v.Undo(mark)
	w.roots, w.family, w.next = roots, family, next
	return 0
}

// stands: the trees tell what they must, and nothing else is in the vault.
func (w *wood) stands(t *testing.T) {
	t.Helper()
	whole(t, w.v, w.roots)
	equal(t, "the family", familyOf(t, w.v, w.roots).told(), w.family.told())
}

// state is what lasts, or is to last: a superblock, its vault, its family.
type state struct {
	s      api.Super
	store  *grove.Store
	family family
}

// lasting is the state that a wood has come to, once it lasts.
func (w *wood) lasting() state {
	s := grove.StoreFrom(w.v)
	s.Settle()
	return state{w.coming(), s, w.family.copy()}
}

// opens: a state is what is opened on a disk, whole.
func (x state) opens(t *testing.T, d *disk.Disk) *vault.Vault {
	t.Helper()
	v := opens(t, d, x.s)
	x.isIn(t, v)
	return v
}

// isIn: a vault has what the state has, and all of it lasts.
func (x state) isIn(t *testing.T, v *vault.Vault) {
	t.Helper()
	equal(t, "a page that is not as it lasts", x.store.Differs(v), 0)
	equal(t, "Held and Free pages", v.Tally(held)+v.Tally(free), v.Len())
	whole(t, v, x.s.Roots)
	equal(t, "the family", familyOf(t, v, x.s.Roots).told(), x.family.told())
}

// reopened lets a wood go on from a state that was opened.
func (w *wood) reopened(x state, v *vault.Vault) {
	w.s, w.v, w.next, w.roots, w.family = x.s, v, x.s.Next, slices.Clone(x.s.Roots), x.family.copy()
}

// write writes what a wood has come to.
func (w *wood) write(t *testing.T, d *disk.Disk) state {
	t.Helper()
	x := w.lasting()
	equal(t, "Write", commit.Write(d, x.s, w.v), 0)
	w.s = x.s
	return x
}

// someConfig is a config of a disk of so many pages, and of a few blocks more, where there
// may be some that are left over.
func someConfig(r *draw.Numbers, pages int) api.Config {
	blocks := 2 + 2*((pages+perBlock-1)/perBlock) + pages
	if pages%perBlock == 0 {
		blocks += r.Below(3)
	}
	return api.Config{Blocks: blocks, Clones: 1 + r.Below(16), Refs: 2 + r.Below(2)*r.Below(12)}
}

// someDisk is a disk of a config, as it is found: behind a few Writes, of any bytes, or of
// both.
func someDisk(t *testing.T, r *draw.Numbers, c api.Config) lying {
	t.Helper()
	d := newDisk(t, c.Blocks)
	if r.Below(5) > 0 {
		other := c
		other.Clones, other.Refs = 1+r.Below(16), 2+r.Below(12)
		d = lived(t, r, []api.Config{c, other}[r.Below(2)], r.Below(4))
	}
	l := lying{blocks: blocksOf(d)}
	for at := range l.blocks {
		if r.Below(12) == 0 {
			l.blocks[at] = junk(t, r, c)
		}
	}
	for range r.Below(4) * r.Below(3) {
		l.unsynced = append(l.unsynced, act{r.Below(len(l.blocks)) / (1 + 4*r.Below(2)), junk(t, r, c)})
	}
	return l
}

// lived is a disk behind so many Writes.
func lived(t *testing.T, r *draw.Numbers, c api.Config, writes int) *disk.Disk {
	t.Helper()
	d, w := newWood(t, r, c)
	for range writes {
		w.steps(8)
		w.write(t, d)
	}
	return d
}

// junk is what may lie in a block: bytes of any kind, and such as look as if they were of a
// forest.
func junk(t *testing.T, r *draw.Numbers, c api.Config) []byte {
	t.Helper()
	p, gen := plan(c), r.Below(6)
	switch r.Below(5) {
	case 0:
		return anyBytes(r)
	case 1:
		counts := make([]int, p.Pages)
		for k := range counts {
			counts[k] = r.Below(3)
		}
		l := bankBlocks(gen, counts)
		return l[r.Below(len(l))]
	case 2:
		s := api.Super{Gen: gen, Config: c, Next: 5}
		if r.Below(2) == 0 {
			s.Roots = roots(tree(1+r.Below(p.Pages), 1+r.Below(3), 1+r.Below(9)))
		}
		return superBlock(s)
	case 3:
		return bytes.Repeat([]byte{0xff}, blockSize)
	}
	return make([]byte, blockSize)
}
