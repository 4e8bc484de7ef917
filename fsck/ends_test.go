package fsck_test

import (
	"fmt"
	"slices"
	"testing"

	"coppice/api"
	"coppice/disk"
	"coppice/draw"
	"coppice/fsck"
	"coppice/grove"
	"coppice/super"
)

// Each call ends, whatever it is given (R1), and tells what the model does.

// odd is numbers of all kinds.
func odd() []int {
	return []int{lowest, -1 << 32, -12, -1, 0, 1, 2, 3, 4, 8, 9, 12, 13, 16, 17, 240, 255, 256, 65535, 65536, 65537, maxId, maxId + 1, 1<<32 + 1, maxGen, maxGen + 1, greatest}
}

func someOdd(r *draw.Numbers) int {
	l := odd()
	return l[r.Below(len(l))]
}

// anyTree is a tree of any numbers.
func anyTree(r *draw.Numbers) api.Tree {
	x := tree(someOdd(r), someOdd(r), someOdd(r))
	if r.Below(2) == 0 {
		x = tree(1+r.Below(9), 1+r.Below(3), 1+r.Below(12))
	}
	return x
}

// R1: superblocks of any numbers, on disks of any bytes.
func TestR1AnySuper(t *testing.T) {
	t.Parallel()
	r, met := draw.Numbers(861), met{}
	for range 4000 {
		blocks := 8 + r.Below(30)
		s := api.Super{Gen: r.Below(5), Config: api.Config{Blocks: blocks, Clones: 1 + r.Below(16), Refs: 2 + r.Below(9)}, Next: 30}
		for k := range r.Below(4) {
			s.Roots = append(s.Roots, api.Root{Id: k + 1, Tree: anyTree(&r)})
		}
		for range r.Below(3) {
			switch r.Below(6) {
			case 0:
				s.Gen = someOdd(&r)
			case 1:
				s.Config.Blocks = someOdd(&r)
			case 2:
				s.Config.Clones = someOdd(&r)
			case 3:
				s.Config.Refs = someOdd(&r)
			case 4:
				s.Next = someOdd(&r)
			default:
				s.Roots = append(s.Roots, api.Root{Id: someOdd(&r), Tree: anyTree(&r)})
			}
		}
		d, e := disk.From(r.Bytes(blocks * blockSize))
		equal(t, "disk.From", e, 0)
		if r.Below(4) == 0 {
			d.Off()
		}
		unwritten(t, d, func() {
			_, _, e = loads(t, d, s)
			_, f := bad(t, d, s)
			met[fmt.Sprint("Load: ", int(e))]++
			met[fmt.Sprint("Bad: ", int(f))]++
			if check := super.Check(s); check != 0 {
				equal(t, "what is told of a superblock that is none", fmt.Sprint(e, f), fmt.Sprint(check, check))
			}
		})
	}
	met.wants(t, 50, "Load: 1", "Load: 4", "Load: 11", "Load: 5", "Load: 17", "Load: 18", "Bad: 1", "Bad: 4", "Bad: 11", "Bad: 5", "Bad: 17", "Bad: 0")
	met.wants(t, 20, "Bad: 25")
}

// R1: each number of a superblock of a forest that lies whole, one by one.
func TestR1EachNumber(t *testing.T) {
	x := newSmall(t)
	d := x.disk(t)
	numbers := func(s *api.Super) []*int {
		l := []*int{&s.Gen, &s.Config.Blocks, &s.Config.Clones, &s.Config.Refs, &s.Next}
		for k := range s.Roots {
			r := &s.Roots[k]
			l = append(l, &r.Id, &r.Tree.Root, &r.Tree.Height, &r.Tree.Items)
		}
		return l
	}
	for at := range numbers(&x.s) {
		for _, n := range odd() {
			s := x.s
			s.Roots = slices.Clone(x.s.Roots)
			*numbers(&s)[at] = n
			loads(t, d, s)
			bad(t, d, s)
		}
	}
}

// R1: vaults whose pages lead anywhere, in rings too, with counts of any kind, and roots of
// any numbers.
func TestR1AnyVault(t *testing.T) {
	t.Parallel()
	r, met := draw.Numbers(862), met{}
	for range 3000 {
		n := 1 + r.Below(8)
		pages := make([]api.Page, n)
		for k := range pages {
			if r.Below(6) > 0 {
				pages[k] = grove.AnyPage(&r, n)
			}
		}
		s, _ := grove.Settings(&r).Lay(&r, &grove.Grown{Pages: pages})
		v := vaultOf(t, s)
		for range 4 {
			var l []api.Root
			for range r.Below(4) {
				l = append(l, api.Root{Id: anyId(&r), Tree: anyTree(&r)})
			}
			_, e := whole(t, v, l)
			met[fmt.Sprint(int(e))]++
		}
	}
	met.wants(t, 100, "18")
	met.wants(t, 10, "0")
}

// R1: trees that would have no end, or ways down that are too many to be gone, in a vault
// and on a disk.
func TestR1Rings(t *testing.T) {
	t.Parallel()
	r := draw.Numbers(863)
	var pages []api.Page
	pages = append(pages, leafOf("abcd", 3840, 14))
	for level := 1; level <= 11; level++ { // each leads to one page from all of its items
		pages = append(pages, index(level, "bcdefgh", slices.Repeat([]int{level}, most)...))
	}
	pages = append(pages, index(11, "m", 13, 13), part(480, 14), part(480, 16), part(480, 15))
	s := grove.StoreOf(9, pages, 4)
	for k := range pages {
		s.Counts[k] = 8
	}
	v := vaultOf(t, s)
	for n, p := range pages {
		for height := 1; height <= 13; height++ {
			x := tree(n+1, height, 4)
			refused(t, "a tree without an end", v, x)
			if height <= maxHeight {
				f := lay(t, &r, v, []api.Tree{x})
				_, _, e := loads(t, f.disk(t), f.s)
				equal(t, "Load", e, errCorrupt)
				l, _ := bad(t, f.disk(t), f.s)
				isRoot := p.Kind != blobKind && p.Level == height-1
				equal(t, "its root is bad", slices.Contains(l, f.blockOf(n+1)), !isRoot || n+1 == 13)
			}
		}
	}
}

// R1: disks of any bytes, and of bytes that were right once.
func TestR1AnyBytes(t *testing.T) {
	t.Parallel()
	r, met := draw.Numbers(864), met{}
	for range 300 {
		f, _ := someLying(t, &r, 30, 10)
		for range 1 + r.Below(9) {
			at := r.Below(len(f.blocks))
			b := slices.Clone(f.blocks[at])
			switch r.Below(4) {
			case 0:
				b = r.Bytes(blockSize)
			case 1:
				b[r.Below(blockSize)] ^= byte(1 + r.Below(255))
			case 2:
				b = f.blocks[r.Below(len(f.blocks))]
			default:
				b = f.junk(t, &r, at)
			}
			f.blocks[at] = b
		}
		if r.Below(3) == 0 {
			f.s.Roots = append(f.s.Roots, api.Root{Id: f.s.Next, Tree: tree(1+r.Below(f.plan.Pages), 1+r.Below(12), 1+r.Below(40))})
			f.s.Next++
			f.s.Config.Clones = 16
		}
		_, _, e := loads(t, f.disk(t), f.s)
		met[fmt.Sprint(int(e))]++
		bad(t, f.disk(t), f.s)
	}
	met.wants(t, 20, "0", "18")
}

// Where no vault or no disk is handed in nothing is promised but that it ends.
func TestR1None(t *testing.T) {
	x := newSmall(t)
	fsck.Whole(nil, nil)
	fsck.Whole(nil, x.s.Roots)
	fsck.Load(nil, x.s)
	fsck.Bad(nil, x.s)
	fsck.Load(nil, api.Super{})
	fsck.Bad(nil, api.Super{})
}
