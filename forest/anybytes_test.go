package forest_test

import (
	"bytes"
	"fmt"
	"slices"
	"testing"

	"coppice/api"
	"coppice/bank"
	"coppice/commit"
	"coppice/disk"
	"coppice/draw"
	"coppice/forest"
	"coppice/grove"
	"coppice/page"
	"coppice/super"
)

// sceneOn is the forest that lies on a disk, and its model, each over a disk of its own with
// the same blocks.
func sceneOn(t *testing.T, r *draw.Numbers, on *disk.Disk) *scene {
	t.Helper()
	s := &scene{t: t, r: r, met: met{}, d: twin(t, on)}
	s.f = opened(t, s.d)
	d := twin(t, on)
	last, v, e := commit.Open(d)
	equal(t, "commit.Open", e, 0)
	store := grove.StoreFrom(v)
	s.p = plainOf(t, d, last, store, familyIn(store, last.Roots))
	s.last = s.p.now
	for _, m := range s.p.now.family {
		for k := range m {
			s.keys = append(s.keys, []byte(k))
		}
	}
	slices.SortFunc(s.keys, bytes.Compare)
	for range 10 {
		s.keys = append(s.keys, grove.Key(r))
	}
	equal(t, "what is opened", whole(s.f), whole(s.p))
	return s
}

// W5: forests made by hand, of trees that share pages in any way: from Open on W1 to W4
// hold.
func TestW5StrangeForests(t *testing.T) {
	t.Parallel()
	r, all := draw.Numbers(2421), met{}
	for range 70 {
		s := sceneOn(t, &r, someStrange(t, &r))
		all[fmt.Sprint("trees ", len(s.f.Roots()))]++
		for range 3 {
			s.steps(25)
			if s.p.now.coming.Gen <= maxGen && r.Below(2) == 0 {
				s.failing(r.Below(s.acts()))
			}
		}
		s.emptied()
		all.add(s.met)
		all.add(s.p.met)
	}
	all.wants(t, 2, "trees 1", "trees 2", "trees 4", "trees 6", "Commit 4", "Plant 4", "Clone 4", "Clone 13", "Clone 14", "Put 13", "Put 12", "Delete 12", "Merge 12")
	all.wants(t, 1, "Delete 13", "Merge 13", "Trim 12")
}

// emptied drops all trees, and commits, if there is a generation left: all pages are free
// then (W3).
func (s *scene) emptied() {
	s.t.Helper()
	for _, x := range s.f.Roots() {
		equal(s.t, "Drop", s.ask(call{name: "Drop", a: x.Id}), 0)
	}
	pages := len(s.f.Counts())
	equal(s.t, "pages that are free, or were led to", s.f.Tally(free)+s.f.Tally(pending), pages)
	if s.ask(call{name: "Commit"}) == 0 {
		equal(s.t, "pages that are free behind dropping all trees and a commit", s.f.Tally(free), pages)
		equal(s.t, "and behind Open", opened(s.t, s.d).Tally(free), pages)
		s.met["emptied"]++
	}
}

// junk is what may lie in a block: bytes of any kind, and such as look as if they were of a
// forest.
func junk(t *testing.T, r *draw.Numbers, c api.Config) []byte {
	t.Helper()
	p, gen := plan(t, c), r.Below(6)
	switch r.Below(6) {
	case 0:
		return anyBytes(r)
	case 1:
		counts := make([]int, p.Pages)
		for k := range counts {
			counts[k] = r.Below(3)
		}
		l, _ := bank.Encode(gen, counts)
		return l[r.Below(len(l))]
	case 2:
		s := api.Super{Gen: gen, Config: c, Next: 5}
		if r.Below(2) == 0 {
			s.Roots = []api.Root{{Id: 1, Tree: tree(1+r.Below(p.Pages), 1+r.Below(3), 1+r.Below(9))}}
		}
		b, _ := super.Encode(s)
		return b
	case 3:
		b, _ := page.Encode(1+r.Below(p.Pages), gen, grove.AnyPage(r, p.Pages))
		return b
	case 4:
		return bytes.Repeat([]byte{0xff}, blockSize)
	}
	return make([]byte, blockSize)
}

// someDisk is a disk as it may be found: of any bytes, behind a row of calls, made by hand,
// or any of these with some blocks that are written over.
func someDisk(t *testing.T, r *draw.Numbers) *disk.Disk {
	t.Helper()
	c := someConfig(r, []int{4, 9, 20, 60, 241}[r.Below(5)])
	d := newDisk(t, c.Blocks)
	switch r.Below(3) {
	case 0:
		s := newScene(t, r, c)
		for range r.Below(4) {
			s.steps(10)
			s.ask(call{name: "Commit"})
		}
		d = s.d
	case 1:
		d = someStrange(t, r)
	}
	if r.Below(3) > 0 {
		for range r.Below(4) {
			written(t, d, r.Below(d.Blocks())/(1+r.Below(2)*(d.Blocks()/5)), junk(t, r, c))
		}
	}
	if r.Below(5) == 0 {
		for at := range d.Blocks() {
			if r.Below(3) == 0 {
				written(t, d, at, junk(t, r, c))
			}
		}
	}
	equal(t, "Sync", d.Sync(), 0)
	return d
}

// W5 and P24.1: of any disk Open ends: with the error of commit.Open and no forest; or with
// a forest for which W1 to W4 hold. It writes nothing.
func TestW5AnyBytes(t *testing.T) {
	t.Parallel()
	r, met := draw.Numbers(2422), met{}
	for range 300 {
		d := someDisk(t, &r)
		_, _, want := commit.Open(d)
		unwritten(t, d, func() {
			f, e := forest.Open(d)
			equal(t, "Open", e, want)
			equal(t, "a forest, or none", f == nil, e != 0)
		})
		if want == 0 {
			s := sceneOn(t, &r, d)
			s.steps(12)
		}
		met[fmt.Sprint("Open ", int(want))]++
	}
	met.wants(t, 40, "Open 0", "Open 18")
}

// P24.1: of bytes 0, of bytes that follow no rule, without power, of all sizes.
func TestP24_1OpensErrors(t *testing.T) {
	t.Parallel()
	r := draw.Numbers(2423)
	none := func(d *disk.Disk, want api.Errno) {
		t.Helper()
		unwritten(t, d, func() {
			f, e := forest.Open(d)
			equal(t, "Open", e, want)
			equal(t, "no forest beside an error", f == nil, true)
		})
	}
	for _, blocks := range []int{8, 9, 245, maxBlocks} {
		d := newDisk(t, blocks)
		none(d, errCorrupt)
		for at := range min(blocks, 300) {
			written(t, d, at, anyBytes(&r))
		}
		none(d, errCorrupt)
		d.Off()
		none(d, errDown)
	}
	d, f := formatted(t, api.Config{Blocks: 8, Clones: 2, Refs: 9})
	d.Off()
	none(d, errDown)
	d.On(nil)
	equal(t, "what is opened", whole(opened(t, d)), whole(f))
}

// P24.1: what Format refuses, in the order of commit.Format: a config that may not be, one of
// another disk, a disk without power. Nothing is written.
func TestP24_1FormatsErrors(t *testing.T) {
	right := api.Config{Blocks: 12, Clones: 3, Refs: 5}
	var wrong []api.Config
	for _, n := range []int{lowest, -1, 0, 7, 8, 11, 13, maxBlocks, maxBlocks + 1, 1<<32 + 12, greatest} {
		wrong = append(wrong, api.Config{Blocks: n, Clones: 3, Refs: 5})
	}
	for _, n := range []int{lowest, -1, 0, 17, 1<<8 + 1, 1<<32 + 1, greatest} {
		wrong = append(wrong, api.Config{Blocks: 12, Clones: n, Refs: 5})
	}
	for _, n := range []int{lowest, -1, 0, 1, maxRefs + 1, 1<<16 + 2, 1<<32 + 2, greatest} {
		wrong = append(wrong, api.Config{Blocks: 12, Clones: 3, Refs: n})
	}
	refused := func(d *disk.Disk, c api.Config, want api.Errno) {
		t.Helper()
		unwritten(t, d, func() {
			f, e := forest.Format(d, c)
			equal(t, fmt.Sprintf("Format(%v)", c), e, want)
			equal(t, "no forest beside an error", f == nil, true)
		})
	}
	d := newDisk(t, 12)
	for range 2 {
		for _, c := range wrong {
			refused(d, c, errArg)
		}
		d.Off()
	}
	refused(d, right, errDown)
	d.On(nil)
	for _, c := range []api.Config{right, {Blocks: 12, Clones: 1, Refs: 2}, {Blocks: 12, Clones: 16, Refs: maxRefs}} {
		f, e := forest.Format(d, c)
		equal(t, "Format", e, 0)
		isEmpty(t, f, c)
		isEmpty(t, opened(t, d), c)
	}
}

// isEmpty: it is the forest behind a Format.
func isEmpty(t *testing.T, f *forest.Forest, c api.Config) {
	t.Helper()
	equal(t, "Super", told(f.Super()), told(api.Super{Gen: 1, Config: c, Next: 1}))
	equal(t, "Roots", len(f.Roots()), 0)
	equal(t, "Dead", f.Dead(), false)
	equal(t, "free pages", f.Tally(free), plan(t, c).Pages)
	equalLists(t, "Counts", f.Counts(), make([]int, plan(t, c).Pages))
}

// P24.1: Format begins anew, whatever lies there.
func TestP24_1FormatOfAnyDisk(t *testing.T) {
	t.Parallel()
	r := draw.Numbers(2424)
	for range 100 {
		d := someDisk(t, &r)
		c := api.Config{Blocks: d.Blocks(), Clones: 1 + r.Below(16), Refs: 2 + r.Below(9)}
		f, e := forest.Format(d, c)
		equal(t, "Format", e, 0)
		isEmpty(t, f, c)
		s := sceneOn(t, &r, d)
		isEmpty(t, s.f, c)
		s.steps(10)
	}
}
