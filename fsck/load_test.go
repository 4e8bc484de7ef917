package fsck_test

import (
	"bytes"
	"fmt"
	"slices"
	"testing"

	"coppice/api"
	"coppice/bank"
	"coppice/disk"
	"coppice/draw"
	"coppice/fsck"
	"coppice/grove"
	"coppice/super"
	"coppice/vault"
)

// someLying is a wood that lies on a disk.
func someLying(t *testing.T, r *draw.Numbers, pages, steps int) (*lying, *wood) {
	t.Helper()
	w := someWood(t, r, pages, steps)
	return lay(t, r, w.v, w.trees), w
}

// P22.2: what lies whole is loaded: Refs, each count, each page, all of which lasts, and the
// report, which is Whole's of the vault that was laid down.
func TestP22_2Load(t *testing.T) {
	t.Parallel()
	r, met := draw.Numbers(821), met{}
	for range 120 {
		f, w := someLying(t, &r, 200, 1+r.Below(25))
		want := told(w.stands(t))
		d := f.disk(t)
		unwritten(t, d, func() {
			v, report, e := loads(t, d, f.s)
			equal(t, "Load", e, 0)
			equal(t, "the report", told(report), want)
			lasts(t, v, w.v)
		})
		met[fmt.Sprintf("slot %d", f.s.Gen%2)]++
		met[fmt.Sprintf("%d trees", min(len(w.trees), 4))]++
	}
	met.wants(t, 10, "slot 0", "slot 1", "1 trees", "2 trees", "3 trees", "4 trees")
}

// lasts: what was loaded is what was laid down, and all of it lasts.
func lasts(t *testing.T, v, was *vault.Vault) {
	t.Helper()
	equal(t, "Len", v.Len(), was.Len())
	equal(t, "Refs", v.Refs(), was.Refs())
	equalLists(t, "Counts", v.Counts(), was.Counts())
	equal(t, "Held", v.Tally(held), was.Tally(held)+was.Tally(fresh))
	equal(t, "Free", v.Tally(free), v.Len()-v.Tally(held))
	for n, c := range was.Counts() {
		p, e := v.Read(n + 1)
		q, f := was.Read(n + 1)
		equal(t, "Read", e, f)
		equal(t, fmt.Sprintf("page %d is as it was laid", n+1), grove.Same(p, q), true)
		state := held
		if c == 0 {
			state = free
		}
		equal(t, "State", v.State(n+1), state)
		equal(t, "Write of what lasts", v.Write(n+1, leaf("a")), errPage)
	}
	equal(t, "Undo(0)", v.Undo(0), true)
	equal(t, "Undo(1)", v.Undo(1), false)
}

// P22.2: of each number of pages at which a bank takes a block more, and beside it; also
// where blocks are left over behind the last page.
func TestP22_2NumbersOfPages(t *testing.T) {
	t.Parallel()
	r := draw.Numbers(822)
	for _, pages := range []int{4, 5, 6, 239, 240, 240, 240, 241, 242, 479, 480, 480, 480, 481, 721, 3000} {
		w := newWood(t, &r, pages, 2+r.Below(5))
		for range 12 {
			w.step()
		}
		f := lay(t, &r, w.v, w.trees)
		_, report, e := loads(t, f.disk(t), f.s)
		equal(t, fmt.Sprintf("Load of %d pages", pages), e, 0)
		equal(t, "the report", told(report), told(w.stands(t)))
	}
}

// P22.2: the greatest disk, a count as great as can be, the greatest generation and id.
func TestP22_2Greatest(t *testing.T) {
	t.Parallel()
	r := draw.Numbers(823)
	pages := make([]api.Page, 0, 64992)
	var trees []api.Tree
	for range 15 {
		pages = append(pages, leaf("abc"))
		trees = append(trees, tree(len(pages), 1, 3))
	}
	for len(pages) < 64991 {
		pages = append(pages, api.Page{})
	}
	pages = append(pages, leaf("z"))
	trees = append(trees, tree(len(pages), 1, 1))
	f := lay(t, &r, vaultOf(t, counted(65535, 0, pages, trees...)), trees)
	f.s.Next = maxId + 1
	f.s.Roots[15].Id = maxId
	d := f.disk(t)
	equal(t, "blocks", d.Blocks() >= 65535, true)
	_, report, e := loads(t, d, f.s)
	equal(t, "Load", e, 0)
	equal(t, "the report", told(report), told(api.Report{Trees: 16, Pages: 16, Leaves: 16, Items: 46, Bytes: 92}))
	written(t, d, f.blockOf(64992), make([]byte, blockSize))
	tells(t, "the last page is overwritten", d, f.s, errCorrupt, f.blockOf(64992))
}

// small is a forest of three pages that are led to, on a disk of its own, laid by hand: a
// leaf with a value on page 2, of two trees; and how it may be changed.
type small struct {
	*lying
	counts []int
}

func newSmall(t *testing.T) *small {
	t.Helper()
	f := &lying{s: api.Super{Gen: 3, Config: api.Config{Blocks: 12, Clones: 3, Refs: 3}, Next: 9, Roots: roots(tree(1, 1, 4), tree(1, 1, 4))}}
	f.plan, _ = super.Plan(f.s.Config)
	f.blocks = slices.Repeat([][]byte{make([]byte, blockSize)}, 12)
	x := &small{f, []int{2, 1, 0, 0, 0, 0, 0, 0}}
	x.layBank(t, x.counts)
	x.layPage(t, 1, 3, leafOf("abcd", 50, 2))
	x.layPage(t, 2, 1, part(50, 0))
	return x
}

// count lets the bank say another count of a page.
func (x *small) count(t *testing.T, n, count int) {
	t.Helper()
	x.counts[n-1] = count
	x.layBank(t, x.counts)
}

// P22.2: each reason by itself for which it is ErrCorrupt, with what is just not yet so.
func TestP22_2Corrupt(t *testing.T) {
	for _, c := range []struct {
		what string
		want api.Errno
		do   func(*small)
	}{
		{"as it was laid", 0, func(x *small) {}},
		{"a block more", errCorrupt, func(x *small) { x.blocks = append(x.blocks, make([]byte, blockSize)) }},
		{"a block fewer", errCorrupt, func(x *small) { x.blocks = x.blocks[:11] }},
		{"a config of a block more", errCorrupt, func(x *small) { x.s.Config.Blocks = 13 }},
		{"a config of a block fewer", errCorrupt, func(x *small) { x.s.Config.Blocks = 11 }},

		{"a bank of bytes 0", errCorrupt, func(x *small) { x.blocks[x.bank()] = make([]byte, blockSize) }},
		{"the bank in the other one's blocks", errCorrupt, func(x *small) { x.blocks[2], x.blocks[3] = x.blocks[3], x.blocks[2] }},
		{"a bank of an older generation", errCorrupt, func(x *small) { x.bankOf(t, 1, 8) }},
		{"a bank of a later generation", errCorrupt, func(x *small) { x.bankOf(t, 5, 8) }},
		{"a bank of a page fewer", errCorrupt, func(x *small) { x.bankOf(t, 3, 7) }},
		{"a bank of a page more", errCorrupt, func(x *small) { x.bankOf(t, 3, 9) }},
		{"the bank, laid once more", 0, func(x *small) { x.bankOf(t, 3, 8) }},
		{"a superblock of an older generation", errCorrupt, func(x *small) { x.s.Gen = 1 }},
		{"a superblock of a later generation", errCorrupt, func(x *small) { x.s.Gen = 5 }},

		{"a count that is Refs", 0, func(x *small) {
			x.s.Roots = append(x.s.Roots, api.Root{Id: 7, Tree: x.s.Roots[0].Tree})
			x.count(t, 1, 3)
		}},
		{"a count above Refs", errCorrupt, func(x *small) {
			x.s.Config.Refs = 2
			x.s.Roots = append(x.s.Roots, api.Root{Id: 7, Tree: x.s.Roots[0].Tree})
			x.count(t, 1, 3)
		}},
		{"Refs is another one, and no count is above it", 0, func(x *small) { x.s.Config.Refs = 2 }},

		{"a page of bytes 0", errCorrupt, func(x *small) { x.blocks[4] = make([]byte, blockSize) }},
		{"another page's block", errCorrupt, func(x *small) { x.blocks[5] = x.blocks[4] }},
		{"pages that lie in one another's block", errCorrupt, func(x *small) { x.blocks[4], x.blocks[5] = x.blocks[5], x.blocks[4] }},
		{"a page of the same generation", 0, func(x *small) { x.layPage(t, 2, 3, part(50, 0)) }},
		{"a page of the first generation", 0, func(x *small) { x.layPage(t, 2, 0, part(50, 0)) }},
		{"a page of a later generation", errCorrupt, func(x *small) { x.layPage(t, 2, 4, part(50, 0)) }},
		{"a page of the last generation", errCorrupt, func(x *small) { x.layPage(t, 1, maxGen, leafOf("abcd", 50, 2)) }},
		{"a page of another kind", errCorrupt, func(x *small) { x.layPage(t, 2, 1, leaf("abcd")) }},
		{"a page with something else that may be", 0, func(x *small) { x.layPage(t, 1, 2, leafOf("efgh", 50, 2)) }},
		{"a page that leads beyond the plan", errCorrupt, func(x *small) { x.layPage(t, 1, 1, leafOf("abcd", 50, 9)) }},
		{"a page of a later generation, of the count 0", 0, func(x *small) { x.layPage(t, 3, 9, leaf("a")) }},
		{"a page that nothing leads to", errCorrupt, func(x *small) {
			x.layPage(t, 3, 1, leaf("a"))
			x.count(t, 3, 1)
		}},
		{"a page of bytes 0 that nothing leads to", errCorrupt, func(x *small) { x.count(t, 3, 1) }},
		{"a page that a tree leads to", 0, func(x *small) {
			x.layPage(t, 8, 1, leaf("a"))
			x.count(t, 8, 1)
			x.s.Roots = append(x.s.Roots, api.Root{Id: 8, Tree: tree(8, 1, 1)})
		}},

		{"a count too high", errCorrupt, func(x *small) { x.count(t, 2, 2) }},
		{"a count too low", errCorrupt, func(x *small) { x.count(t, 1, 1) }},
		{"a count of 0", errCorrupt, func(x *small) { x.count(t, 2, 0) }},
		{"no root", errCorrupt, func(x *small) { x.s.Roots = nil }},
		{"a root fewer", errCorrupt, func(x *small) { x.s.Roots = x.s.Roots[:1] }},
		{"a root more", errCorrupt, func(x *small) { x.s.Roots = append(x.s.Roots, api.Root{Id: 7, Tree: tree(1, 1, 4)}) }},
		{"an empty tree more", 0, func(x *small) { x.s.Roots = append(x.s.Roots, api.Root{Id: 7}) }},
		{"other ids", 0, func(x *small) { x.s.Roots[0].Id, x.s.Roots[1].Id = 4, 8 }},
		{"another Next", 0, func(x *small) { x.s.Next = maxId + 1 }},
		{"another number of Clones", 0, func(x *small) { x.s.Config.Clones = 16 }},
		{"another height", errCorrupt, func(x *small) { x.s.Roots[1].Tree.Height = 2 }},
		{"another number of items", errCorrupt, func(x *small) { x.s.Roots[1].Tree.Items = 5 }},
		{"another root", errCorrupt, func(x *small) { x.s.Roots[1].Tree.Root = 2 }},
	} {
		x := newSmall(t)
		c.do(x)
		d := x.disk(t)
		unwritten(t, d, func() {
			_, _, e := loads(t, d, x.s)
			equal(t, c.what, e, c.want)
			bad(t, d, x.s)
		})
	}
}

// bankOf lays a bank of a generation and of so many pages where the forest's is.
func (x *small) bankOf(t *testing.T, gen, pages int) {
	t.Helper()
	l, e := bank.Encode(gen, append(slices.Clone(x.counts), 0)[:pages])
	equal(t, "bank.Encode", e, 0)
	copy(x.blocks[x.bank():], l)
}

// Blocks of one bank that have changed places.
func TestP22_2BankInDisorder(t *testing.T) {
	r := draw.Numbers(824)
	w := newWood(t, &r, 600, 5)
	f := lay(t, &r, w.v, nil)
	equal(t, "blocks of the bank", f.plan.Bank, 3)
	at := f.bank()
	f.blocks[at], f.blocks[at+2] = f.blocks[at+2], f.blocks[at]
	tells(t, "two blocks of the bank", f.disk(t), f.s, errCorrupt, at, at+2)
	f.blocks[at], f.blocks[at+1] = f.blocks[at+2], f.blocks[at]
	tells(t, "the first block is in its place, and in the third one's too", f.disk(t), f.s, errCorrupt, at+1, at+2)
}

// wrongSupers is a superblock that is as it may be, but for one thing or several, each with
// what super.Check tells.
func wrongSupers(s api.Super) map[api.Errno][]api.Super {
	changed := func(do ...func(*api.Super)) api.Super {
		x := s
		x.Roots = slices.Clone(s.Roots)
		for _, f := range do {
			f(&x)
		}
		return x
	}
	refs := func(s *api.Super) { s.Config.Refs = 1 }
	blocks := func(s *api.Super) { s.Config.Blocks = 7 }
	gen := func(s *api.Super) { s.Gen = maxGen + 1 }
	next := func(s *api.Super) { s.Next = 0 }
	ids := func(s *api.Super) { s.Roots[0].Id = s.Roots[1].Id }
	root := func(s *api.Super) { s.Roots[0].Tree.Root = 65537 }
	height := func(s *api.Super) { s.Roots[1].Tree.Height = 13 }
	return map[api.Errno][]api.Super{
		errArg:   {changed(refs), changed(blocks), changed(refs, gen, ids, root), {}},
		errMany:  {changed(gen), changed(next), changed(gen, ids, root), changed(func(s *api.Super) { s.Gen = -1 })},
		errOrder: {changed(ids), changed(ids, height)},
		errForm:  {changed(root), changed(height)},
	}
}

// P22.2 and P22.3: which error stands first, where several are so.
func TestP22_2WhichError(t *testing.T) {
	x := newSmall(t)
	other := x.s
	other.Config.Blocks = 13
	disks := map[string]func() *disk.Disk{
		"whole":             func() *disk.Disk { return x.disk(t) },
		"of another number": func() *disk.Disk { d, _ := disk.New(11); return d },
		"of bytes 0":        func() *disk.Disk { d, _ := disk.New(12); return d },
	}
	for what, disk := range disks {
		for _, isOn := range []bool{true, false} {
			d := disk()
			if !isOn {
				d.Off()
			}
			asked := func(s api.Super, wantLoad, wantBad api.Errno) {
				t.Helper()
				unwritten(t, d, func() {
					_, _, e := loads(t, d, s)
					equal(t, "Load of a disk "+what, e, wantLoad)
					_, e = bad(t, d, s)
					equal(t, "Bad of a disk "+what, e, wantBad)
				})
			}
			for e, l := range wrongSupers(x.s) {
				for _, s := range l {
					asked(s, e, e)
				}
			}
			switch {
			case !isOn:
				asked(x.s, errDown, errDown)
				asked(other, errDown, errDown)
			case what == "whole":
				asked(x.s, 0, 0)
				asked(other, errCorrupt, errOther)
			case what == "of bytes 0":
				asked(x.s, errCorrupt, 0)
				asked(other, errCorrupt, errOther)
			default:
				asked(x.s, errCorrupt, errOther)
				asked(other, errCorrupt, errOther)
			}
		}
	}
}

// Neither call is an act of the disk: an alarm is not nearer behind it, and no power fails
// at it.
func TestP22_2NoAct(t *testing.T) {
	for acts := range 3 {
		x := newSmall(t)
		d := x.disk(t)
		written(t, d, 0, make([]byte, blockSize))
		d.Arm(acts)
		unwritten(t, d, func() {
			tells(t, "with an alarm", d, x.s, 0)
		})
		for range acts {
			equal(t, "Sync", d.Sync(), 0)
		}
		equal(t, "the act at which the power fails", d.Sync(), errDown)
	}
}

// P22.2: a forest of which one thing is another is loaded just if the model loads it.
func TestP22_2OneThingIsAnother(t *testing.T) {
	t.Parallel()
	r, met := draw.Numbers(825), met{}
	for range 60 {
		f, w := someLying(t, &r, 40, 20)
		for range 16 {
			x := &lying{slices.Clone(f.blocks), f.s, f.plan}
			x.s.Roots = slices.Clone(f.s.Roots)
			what := x.spoil(t, &r, w)
			d := x.disk(t)
			_, _, e := loads(t, d, x.s)
			bad(t, d, x.s)
			met[fmt.Sprintf("%s: %d", what, int(e))]++
		}
	}
	met.wants(t, 10, "gen: 18", "page: 18", "page: 0", "count: 18", "root: 18", "generation of a page: 18", "generation of a page: 0", "block: 18", "block: 0", "Refs: 18", "Refs: 0")
}

// spoil changes one thing of a forest that lies on a disk.
func (f *lying) spoil(t *testing.T, r *draw.Numbers, w *wood) string {
	t.Helper()
	counts, n := w.v.Counts(), 1+r.Below(w.v.Len())
	s := grove.StoreFrom(w.v)
	for k := range counts {
		if counts[k] > 0 && r.Below(3) == 0 {
			n = k + 1
		}
	}
	switch r.Below(7) {
	case 0:
		f.s.Gen = max(0, min(maxGen, f.s.Gen+[]int{-2, -1, 1, 2}[r.Below(4)]))
		return "gen"
	case 1:
		if s.On[n-1].Kind != 0 {
			f.layPage(t, n, older(r, f.s.Gen), otherPage(r, s, n))
		}
		return "page"
	case 2:
		counts[n-1] = max(0, counts[n-1]+r.Below(3)-1)
		f.layBank(t, counts)
		return "count"
	case 3:
		if l := f.s.Roots; len(l) > 0 {
			at := r.Below(len(l))
			l[at].Tree = []api.Tree{empty, tree(n, 1, 4), tree(n, 2, 8), l[r.Below(len(l))].Tree}[r.Below(4)]
		}
		return "root"
	case 4:
		if p, e := w.v.Read(n); e == 0 {
			f.layPage(t, n, []int{0, f.s.Gen, min(maxGen, f.s.Gen+1), r.Below(maxGen + 1)}[r.Below(4)], p)
		}
		return "generation of a page"
	case 5:
		at := r.Below(len(f.blocks))
		f.blocks[at] = f.junk(t, r, at)
		return "block"
	}
	f.s.Config.Refs = max(2, slices.Max(counts)+r.Below(3)-1)
	return "Refs"
}

// P22.2: what was loaded goes on as what was laid down, once that is settled.
func TestP22_2GoesOn(t *testing.T) {
	t.Parallel()
	r := draw.Numbers(826)
	for round := range 30 {
		f, w := someLying(t, &r, 120, 20)
		v, _, e := fsck.Load(f.disk(t), f.s)
		equal(t, "Load", e, 0)
		w.v.Settle()
		one, other := draw.Numbers(round), draw.Numbers(round)
		x := &wood{v, slices.Clone(w.trees), w.keys, &one, met{}}
		w.r, w.met = &other, met{}
		for range 20 {
			x.step()
			w.step()
			equal(t, "the trees", fmt.Sprint(x.trees, x.met), fmt.Sprint(w.trees, w.met))
			equal(t, "a page that is another one", grove.StoreFrom(w.v).Differs(v), 0)
		}
		x.r, w.r = &r, &r
		equal(t, "Whole", told(x.stands(t)), told(w.stands(t)))
	}
}

// The bytes of a disk are as they were, behind both calls, whatever lies there.
func TestP22_2WritesNothing(t *testing.T) {
	t.Parallel()
	r := draw.Numbers(827)
	for range 40 {
		f, _ := someLying(t, &r, 60, 12)
		at := r.Below(len(f.blocks))
		f.blocks[at] = f.junk(t, &r, at)
		d := f.disk(t)
		written(t, d, r.Below(len(f.blocks)), f.junk(t, &r, 5))
		unwritten(t, d, func() {
			loads(t, d, f.s)
			bad(t, d, f.s)
		})
		d.Off()
		d.On(nil)
		equal(t, "what lasts", bytes.Equal(d.Image(), slices.Concat(f.blocks...)), true)
	}
}
