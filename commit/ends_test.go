package commit_test

import (
	"fmt"
	"slices"
	"testing"

	"coppice/api"
	"coppice/commit"
	"coppice/draw"
	"coppice/grove"
	"coppice/page"
	"coppice/super"
)

// Each call ends, whatever it is given (R1).

// odd is numbers of all kinds.
func odd() []int {
	return []int{lowest, -1 << 32, -12, -1, 0, 1, 2, 3, 4, 8, 9, 12, 13, 16, 17, 240, 255, 256, 65535, 65536, 65537, maxId, maxId + 1, 1<<32 + 1, maxGen, maxGen + 1, greatest}
}

func someOdd(r *draw.Numbers) int {
	l := odd()
	return l[r.Below(len(l))]
}

// R1: configs of any numbers.
func TestR1AnyConfig(t *testing.T) {
	t.Parallel()
	r, met := draw.Numbers(2391), met{}
	for range 3000 {
		c := api.Config{Blocks: 8 + r.Below(9), Clones: 1 + r.Below(16), Refs: 2 + r.Below(9)}
		d := newDisk(t, 8+r.Below(9))
		for range r.Below(3) {
			*[]*int{&c.Blocks, &c.Clones, &c.Refs}[r.Below(3)] = someOdd(&r)
		}
		if r.Below(3) == 0 {
			d.Off()
		}
		_, e := super.Plan(c)
		want := api.Errno(0)
		switch {
		case e != 0 || c.Blocks != d.Blocks():
			want = errArg
		case !d.IsOn():
			want = errDown
		}
		equal(t, fmt.Sprintf("Format(%v)", c), format(t, d, c), want)
		met[fmt.Sprint(int(want))]++
	}
	met.wants(t, 20, "0", "1", "17")
}

// R1: superblocks of any numbers, with vaults of any pages, on disks of any bytes.
func TestR1AnySuper(t *testing.T) {
	t.Parallel()
	r, met := draw.Numbers(2392), met{}
	for range 3000 {
		c := api.Config{Blocks: 9 + r.Below(3), Clones: 1 + r.Below(16), Refs: 2 + r.Below(2)}
		s := api.Super{Gen: r.Below(5), Config: c, Next: 30}
		for k := range r.Below(4) {
			s.Roots = append(s.Roots, api.Root{Id: k + 1, Tree: tree(1+r.Below(5+r.Below(4)), 1+r.Below(12), 1+r.Below(9))})
		}
		for range r.Below(3) {
			x := api.Root{}
			l := []*int{&s.Gen, &s.Config.Blocks, &s.Config.Clones, &s.Config.Refs, &s.Next, &x.Id, &x.Tree.Root, &x.Tree.Height, &x.Tree.Items}
			*l[r.Below(len(l))] = someOdd(&r)
			if x != (api.Root{}) {
				s.Roots = append(s.Roots, x)
			}
		}
		d := newDisk(t, 9+r.Below(2)*r.Below(3))
		if r.Below(3) == 0 {
			d.Off()
		}
		store := anyStore(&r, 5+r.Below(2)*r.Below(3), 2+r.Below(2))
		want := api.Errno(0)
		switch e := super.Check(s); {
		case e != 0:
			want = e
		case s.Config.Blocks != d.Blocks() || plan(s.Config).Pages != len(store.Counts) || s.Config.Refs != store.Refs:
			want = errArg
		case !d.IsOn():
			want = errDown
		}
		equal(t, fmt.Sprintf("Write(%v)", s), write(t, d, s, vaultOf(t, store)), want)
		met[fmt.Sprint(int(want))]++
		if d.IsOn() {
			opensAsModel(t, d)
		}
	}
	met.wants(t, 20, "0", "1", "4", "5", "11", "17")
}

// R1: disks of any bytes, and of bytes that were right once, with superblocks that lead
// anywhere: into rings, and to values without an end, too.
func TestR1AnyBytes(t *testing.T) {
	t.Parallel()
	r, met := draw.Numbers(2393), met{}
	for range 600 {
		c := someConfig(&r, []int{4, 12, 40}[r.Below(3)])
		p, l := plan(c), lying{}
		counts := make([]int, p.Pages)
		for k := range counts {
			counts[k] = r.Below(c.Refs + 1)
		}
		for range c.Blocks {
			l.blocks = append(l.blocks, junk(t, &r, c))
		}
		for slot := range 2 {
			gen := 2*r.Below(3) + slot
			s := api.Super{Gen: gen, Config: c, Next: 40}
			for k := range r.Below(c.Clones + 1) {
				s.Roots = append(s.Roots, api.Root{Id: k + 1, Tree: tree(1+r.Below(p.Pages), 1+r.Below(4), 1+r.Below(20))})
			}
			l.blocks[slot] = superBlock(s)
			copy(l.blocks[2+slot*p.Bank:], bankBlocks(gen, counts))
		}
		for n := 1; n <= p.Pages; n++ {
			b, e := page.Encode(n, r.Below(3), grove.AnyPage(&r, p.Pages))
			equal(t, "page.Encode", e, 0)
			l.blocks[p.First+n-1] = b
		}
		met[opensAsModel(t, l.disk(t))]++
	}
	met.wants(t, 100, "error 18")
}

// R1: a forest of trees that would have no end, and of ways down that are too many to be
// gone: Open ends soon.
func TestR1Rings(t *testing.T) {
	t.Parallel()
	c := api.Config{Blocks: 40, Clones: 16, Refs: 200}
	p := plan(c)
	l := lying{blocks: slices.Repeat([][]byte{make([]byte, blockSize)}, c.Blocks)}
	counts := make([]int, p.Pages)
	layPage := func(n int, x api.Page) {
		b, e := page.Encode(n, 0, x)
		equal(t, "page.Encode", e, 0)
		l.blocks[p.First+n-1] = b
		counts[n-1] = 8
	}
	layPage(1, leaf("abcd"))
	for level := 1; level <= 11; level++ { // each leads to one page from all of its items
		x := api.Page{Kind: indexKind, Level: level, Items: []api.Item{{Child: level}}}
		for _, k := range []byte("bcdefgh") {
			x.Items = append(x.Items, api.Item{Key: []byte{k}, Child: level})
		}
		layPage(level+1, x)
	}
	layPage(13, api.Page{Kind: indexKind, Level: 1, Items: []api.Item{{Child: 13}, {Key: []byte("m"), Child: 13}}})
	layPage(14, api.Page{Kind: blobKind, Data: grove.Value(480), Next: 14})
	layPage(15, api.Page{Kind: leafKind, Items: []api.Item{{Key: []byte("a"), Size: 3840, Child: 14}}})
	copy(l.blocks[2:], bankBlocks(0, counts))
	for n := 1; n <= 15; n++ {
		for height := 1; height <= 12; height++ {
			s := api.Super{Config: c, Next: 30, Roots: roots(slices.Repeat([]api.Tree{tree(n, height, 9)}, 16)...)}
			l.blocks[0] = superBlock(s)
			d := l.disk(t)
			candidates(t, d, s)
			opensNone(t, d, errCorrupt)
		}
	}
}

// Where no disk or no vault is handed in nothing is promised but that it ends.
func TestR1None(t *testing.T) {
	d, s, v := formatted(t, exampleConfig)
	commit.Format(nil, exampleConfig)
	commit.Format(nil, api.Config{})
	commit.Write(nil, s, v)
	commit.Write(nil, s, nil)
	commit.Candidates(nil)
	commit.Open(nil)
	commit.Write(d, s, nil)
	opens(t, d, s)
}
