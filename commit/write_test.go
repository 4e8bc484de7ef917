package commit_test

import (
	"bytes"
	"fmt"
	"slices"
	"testing"

	"coppice/api"
	"coppice/commit"
	"coppice/disk"
	"coppice/draw"
	"coppice/grove"
	"coppice/vault"
)

// write is a Write behind which the vault is settled, if it was answered OK, and else as it
// was; the superblock stays.
func write(t *testing.T, d *disk.Disk, s api.Super, v *vault.Vault) api.Errno {
	t.Helper()
	before, mark, given := grove.StoreFrom(v), v.Mark(), told(s)
	e := commit.Write(d, s, v)
	equal(t, "the superblock that was handed in", told(s), given)
	if e == 0 {
		settled(t, v, before, mark)
	} else {
		unsettled(t, v, before, mark)
	}
	return e
}

// P23.2: the bytes of each block, those of a page, of a bank and of a superblock written by
// hand.
func TestP23_2EachByte(t *testing.T) {
	d, _, v := formatted(t, exampleConfig)
	for range 5 {
		v.Make(api.Page{Kind: leafKind, Items: []api.Item{{Key: []byte("a"), Value: []byte("x"), Size: 1}}})
	}
	for n := 1; n < 5; n++ {
		v.Drop(n)
	}
	v.Keep(5)
	s := api.Super{Gen: 258, Config: exampleConfig, Next: 0x01020304, Roots: []api.Root{{Id: 7, Tree: tree(5, 1, 1)}, {Id: 0x0a0b}}}
	equal(t, "Write", write(t, d, s, v), 0)
	blocks := blocksOf(d)
	page := append([]byte{1, 0, 5, 0, 0, 0, 2, 1, 0, 0, 0, 0, 0, 0, 1, 1, 'a', 1, 0, 'x'}, make([]byte, 488)...)
	for at, want := range [][]byte{
		0: sealed([]byte{0x43, 0x4f, 0x50, 0x31, 2, 1, 0, 0, 0, 0, 0, 0, 9, 0, 0, 0, 4, 9, 0, 0, 0, 4, 3, 2, 1, 2,
			7, 0, 0, 0, 5, 0, 0, 0, 1, 1, 0, 0, 0, 0x0b, 0x0a, 0, 0, 0, 0, 0, 0, 0, 0, 0, 0, 0}),
		1: make([]byte, blockSize),
		2: sealed([]byte{66, 2, 1, 0, 0, 0, 0, 0, 0, 0, 0, 0, 0, 5, 0, 0, 0, 0, 0, 0, 0, 0, 0, 0, 0, 2, 0}),
		3: make([]byte, blockSize), // the other bank
		4: make([]byte, blockSize),
		8: append(page, 0xaa, 0x6a, 0x4b, 0xa1),
	} {
		if want != nil {
			equal(t, fmt.Sprintf("block %d", at), bytes.Equal(blocks[at], want), true)
		}
	}
}

// P23.2: what is written, in which order, with the power failing at each act in turn: of
// what a few steps have come to, ahead of the first Write and behind others.
func TestP23_2EachAct(t *testing.T) {
	t.Parallel()
	r, met := draw.Numbers(2321), met{}
	for range 60 {
		c := someConfig(&r, []int{5, 12, 30, 30, 60, 240, 241}[r.Below(7)])
		d, w := newWood(t, &r, c)
		for range r.Below(4) {
			w.steps(1 + r.Below(9))
			w.write(t, d)
		}
		w.steps(r.Below(16))
		store, s := grove.StoreFrom(w.v), w.coming()
		for state, many := range []string{free: "Free", pending: "Pending", fresh: "Fresh", held: "Held"} {
			if store.Tally(state) > 0 {
				met[many]++
			}
		}
		l := lying{blocks: blocksOf(d)}
		followed(t, &r, fmt.Sprintf("Write(%v)", s), l, modelWrite(t, s, store), func(d *disk.Disk) api.Errno {
			return write(t, d, s, vaultOf(t, store))
		})
		met[fmt.Sprint("slot ", s.Gen%2)]++
	}
	met.wants(t, 10, "Free", "Pending", "Fresh", "Held", "slot 0", "slot 1")
}

// anyStore is a store of any pages, with any counts, of which some last.
func anyStore(r *draw.Numbers, pages, refs int) *grove.Store {
	s := grove.StoreOf(refs, nil, pages)
	for k := range s.On {
		if r.Below(4) == 0 {
			continue
		}
		s.On[k], s.Lasts[k] = grove.AnyPage(r, pages), r.Below(2)
		s.Counts[k] = []int{0, 1, 1, 2, refs}[r.Below(5)]
		if s.Lasts[k] == 0 {
			s.Counts[k] = max(1, min(s.Counts[k], 40))
		}
	}
	return s
}

// P23.2: any superblock and any vault, of any disk, whatever came from where.
func TestP23_2AnySuperAndVault(t *testing.T) {
	t.Parallel()
	r := draw.Numbers(2322)
	for range 60 {
		pages := []int{4, 5, 12, 40, 239, 240, 241, 480, 481}[r.Below(9)]
		c := someConfig(&r, pages)
		c.Refs = []int{2, 3, 65535}[r.Below(3)]
		store := anyStore(&r, pages, c.Refs)
		s := api.Super{Gen: []int{0, 1, 2, 3, 258, maxGen - 1, maxGen}[r.Below(7)], Config: c, Next: 20 + r.Below(2)*(maxId-19)}
		for k := range r.Below(c.Clones + 1) {
			s.Roots = append(s.Roots, api.Root{Id: k + 1, Tree: tree(1+r.Below(pages), 1+r.Below(12), 1+r.Below(9))})
		}
		l := someDisk(t, &r, c)
		acts := modelWrite(t, s, store)
		if len(acts) > 60 { // not each one of them
			d := l.disk(t)
			equal(t, "Write", write(t, d, s, vaultOf(t, store)), 0)
			same(t, "Write", d, l.did(t, acts))
			n := r.Below(len(acts))
			d = l.disk(t)
			d.Arm(n)
			equal(t, "Write", write(t, d, s, vaultOf(t, store)), errDown)
			d.Off()
			want := l.did(t, acts[:n])
			want.Off()
			same(t, "Write", d, want)
			continue
		}
		followed(t, &r, fmt.Sprintf("Write(%v)", s), l, acts, func(d *disk.Disk) api.Errno {
			return write(t, d, s, vaultOf(t, store))
		})
	}
}

// P23.2: the greatest disk, with a count as great as can be, of the last generation.
func TestP23_2Greatest(t *testing.T) {
	t.Parallel()
	c := api.Config{Blocks: maxBlocks, Clones: 16, Refs: 65535}
	d, _, v := formatted(t, c)
	counts := make([]int, v.Len())
	counts[0], counts[v.Len()-1] = 65535, 1
	v, e := vault.Load(65535, counts, []api.Numbered{{No: 1, Page: leaf("a")}, {No: v.Len(), Page: leaf("b")}})
	equal(t, "vault.Load", e, 0)
	for range v.Len() - 2 {
		if _, e := v.Make(leaf("c")); e != 0 {
			t.Fatal("Make")
		}
	}
	l := lying{blocks: blocksOf(d)}
	s := api.Super{Gen: maxGen, Config: c, Next: maxId + 1, Roots: []api.Root{{Id: maxId, Tree: tree(64992, 1, 1)}}}
	store := grove.StoreFrom(v)
	equal(t, "Write", write(t, d, s, v), 0)
	want := l.did(t, modelWrite(t, s, store))
	equal(t, "what lasts is alike", bytes.Equal(d.Image(), want.Image()), true)
	acts(t, d, 2+271+1+1+64990+271+1, 6)
}

// P23.2: which error stands first, where several are so: that of the superblock, that of the
// disk's blocks and of the vault, that of the power. Nothing is written, and the vault stays.
func TestP23_2Errors(t *testing.T) {
	t.Parallel()
	r := draw.Numbers(2323)
	c := api.Config{Blocks: 12, Clones: 3, Refs: 9}
	right := api.Super{Gen: 4, Config: c, Next: 9, Roots: roots(tree(1, 1, 4), tree(2, 2, 9))}
	stores := map[string]*grove.Store{}
	for what, of := range map[string][2]int{"right": {8, 9}, "a page fewer": {7, 9}, "a page more": {9, 9}, "Refs less": {8, 8}, "Refs more": {8, 10}, "both": {300, 2}} {
		stores[what] = grove.StoreOf(of[1], []api.Page{leaf("abcd"), leaf("e")}, of[0]-2)
	}
	met := met{}
	for _, blocks := range []int{12, 8, 11, 13, 30} {
		for _, power := range []int{-1, 0, 1} { // on, with an alarm, off
			l := lying{blocks: blocksOf(newDisk(t, blocks))}
			for k := range l.blocks {
				l.blocks[k] = anyBytes(&r)
			}
			d := l.disk(t)
			written(t, d, 5, anyBytes(&r))
			if power == 0 {
				d.Arm(0)
			} else if power == 1 {
				d.Off()
			}
			for what, store := range stores {
				for want, l := range wrongSupers(right) {
					for _, s := range l {
						refused(t, d, s, store, want)
						met[fmt.Sprint(int(want))]++
					}
				}
				switch {
				case blocks != 12 || what != "right":
					refused(t, d, right, store, errArg)
					met["not alike"]++
				case power == 1:
					refused(t, d, right, store, errDown)
					met["no power"]++
				}
			}
		}
	}
	met.wants(t, 100, "1", "4", "11", "5")
	met.wants(t, 60, "not alike")
	met.wants(t, 1, "no power")
}

// P23.2: a config of the same plan is another one all the same, if its Blocks are others.
func TestP23_2BlocksThatAreLeftOver(t *testing.T) {
	for _, c := range [][2]int{{244, 245}, {245, 244}} {
		d := newDisk(t, c[0])
		other := api.Config{Blocks: c[1], Clones: 2, Refs: 9}
		store := grove.StoreOf(9, nil, 240)
		unwritten(t, d, func() { equal(t, "Format", format(t, d, other), errArg) })
		refused(t, d, api.Super{Gen: 1, Config: other, Next: 1}, store, errArg)
		other.Blocks = c[0]
		equal(t, "Write", write(t, d, api.Super{Gen: 1, Config: other, Next: 1}, vaultOf(t, store)), 0)
	}
}

// refused: a Write is refused, and nothing has changed.
func refused(t *testing.T, d *disk.Disk, s api.Super, store *grove.Store, want api.Errno) {
	t.Helper()
	v := vaultOf(t, store)
	unwritten(t, d, func() {
		equal(t, fmt.Sprintf("Write(%v)", s), write(t, d, s, v), want)
	})
	equal(t, "Undo(0)", v.Undo(0), true)
}

// wrongSupers is a superblock that is as it may be, but for one thing or several, each with
// what super.Check tells.
func wrongSupers(s api.Super) map[api.Errno][]api.Super {
	changed := func(do ...func(*api.Super)) api.Super {
		x := s
		x.Roots = slices.Clone(s.Roots)
		for _, f := range do {
			f(&x)
		}
		return x
	}
	refs := func(s *api.Super) { s.Config.Refs = 65536 }
	blocks := func(s *api.Super) { s.Config.Blocks = 7 }
	clones := func(s *api.Super) { s.Config.Clones = 17 }
	gen := func(s *api.Super) { s.Gen = maxGen + 1 }
	below := func(s *api.Super) { s.Gen = -1 }
	next := func(s *api.Super) { s.Next = 0 }
	many := func(s *api.Super) { s.Config.Clones = 1 }
	ids := func(s *api.Super) { s.Roots[0].Id = s.Roots[1].Id }
	root := func(s *api.Super) { s.Roots[0].Tree.Root = 9 }
	height := func(s *api.Super) { s.Roots[1].Tree.Height = 13 }
	return map[api.Errno][]api.Super{
		errArg:   {changed(refs), changed(blocks), changed(clones), changed(refs, gen, ids, root), {}},
		errMany:  {changed(gen), changed(below), changed(next), changed(many), changed(gen, ids, root)},
		errOrder: {changed(ids), changed(ids, height), changed(func(s *api.Super) { s.Roots[1].Id = 9 })},
		errForm:  {changed(root), changed(height)},
	}
}

// P23.2: where the power fails, all that was done in the vault can still be undone; behind OK
// nothing of it.
func TestP23_2Undo(t *testing.T) {
	t.Parallel()
	r := draw.Numbers(2324)
	for range 40 {
		c := someConfig(&r, 40)
		d, w := newWood(t, &r, c)
		w.steps(10)
		w.write(t, d)
		before, mark := grove.StoreFrom(w.v), w.v.Mark()
		for w.v.Mark() == mark {
			w.steps(6)
		}
		store, s := grove.StoreFrom(w.v), w.coming()
		for _, n := range []int{0, 1, 2, len(modelWrite(t, s, store)) - 1} {
			twin := lying{blocks: blocksOf(d)}.disk(t)
			twin.Arm(n)
			equal(t, "Write", write(t, twin, s, w.v), errDown)
		}
		equal(t, "Undo", w.v.Undo(mark), true)
		equal(t, "a page that is not as it was", before.Differs(w.v), 0)
		w.v = vaultOf(t, store)
		equal(t, "Write", write(t, d, s, w.v), 0)
		equal(t, "Undo behind OK", w.v.Undo(w.v.Mark()-1), false)
	}
}

// P23.2: a Write that failed can be done again, once the power is back.
func TestP23_2OnceMore(t *testing.T) {
	t.Parallel()
	r := draw.Numbers(2325)
	for range 60 {
		d, w := newWood(t, &r, someConfig(&r, 30))
		for range 5 {
			w.steps(6)
			x := w.lasting()
			n := len(modelWrite(t, x.s, grove.StoreFrom(w.v)))
			for range 3 {
				d.Arm(r.Below(n))
				equal(t, "Write", write(t, d, x.s, w.v), errDown)
				d.On(bits(n, r.Below(1<<min(n, 20))))
			}
			w.write(t, d)
			x.opens(t, d)
		}
	}
}
