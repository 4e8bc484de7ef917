package fsck_test

import (
	"fmt"
	"slices"
	"testing"

	"coppice/api"
	"coppice/disk"
	"coppice/draw"
	"coppice/grove"
	"coppice/page"
	"coppice/super"
)

// led is pages by their numbers.
type led map[int]api.Page

// plot is a disk of 14 blocks, of the generation 6, with 10 pages, page n in block 3 + n;
// its bank is right, whatever it says, and a page that was not laid is of bytes 0.
func plot(t *testing.T, pages led, trees ...api.Tree) *lying {
	t.Helper()
	f := &lying{s: api.Super{Gen: 6, Config: api.Config{Blocks: 14, Clones: 8, Refs: 9}, Next: 9, Roots: roots(trees...)}}
	f.plan, _ = super.Plan(f.s.Config)
	f.blocks = slices.Repeat([][]byte{make([]byte, blockSize)}, 14)
	f.layBank(t, make([]int, 10))
	for n, p := range pages {
		f.layPage(t, n, 6, p)
	}
	return f
}

// badPages: Bad is just the blocks of these pages.
func badPages(t *testing.T, what string, f *lying, pages ...int) {
	t.Helper()
	d := f.disk(t)
	var blocks []int
	for _, n := range pages {
		blocks = append(blocks, 3+n)
	}
	unwritten(t, d, func() {
		l, e := bad(t, d, f.s)
		equal(t, what, e, 0)
		equalLists(t, what, l, blocks)
	})
}

// P22.3: pages that are right as what they are led to, and such as are not.
func TestP22_3WhatIsRight(t *testing.T) {
	long := func(child int) api.Page { return leafOf("abcd", 50, child) }
	for _, c := range []struct {
		what  string
		pages led
		trees []api.Tree
		bad   []int
	}{
		{"no roots", nil, nil, nil},
		{"the empty tree", nil, []api.Tree{empty}, nil},
		{"a leaf", led{3: leaf("a")}, []api.Tree{tree(3, 1, 1)}, nil},
		{"a root that was never written", nil, []api.Tree{tree(3, 1, 1)}, []int{3}},
		{"the last page as a root", nil, []api.Tree{tree(10, 1, 1)}, []int{10}},
		{"a leaf as an index", led{3: leaf("a")}, []api.Tree{tree(3, 2, 1)}, []int{3}},
		{"a leaf as an index of the highest level", led{3: leaf("a")}, []api.Tree{tree(3, 12, 1)}, []int{3}},
		{"an index as a leaf", led{3: index(1, "m", 4, 5), 4: leaf("a"), 5: leaf("m")}, []api.Tree{tree(3, 1, 1)}, []int{3}},
		{"an index of one level less", led{3: index(1, "m", 4, 5)}, []api.Tree{tree(3, 3, 1)}, []int{3}},
		{"an index of one level more", led{3: index(2, "m", 4, 5)}, []api.Tree{tree(3, 2, 1)}, []int{3}},
		{"a blob as a leaf", led{3: part(9, 0)}, []api.Tree{tree(3, 1, 1)}, []int{3}},
		{"a blob as an index", led{3: part(9, 0)}, []api.Tree{tree(3, 2, 1)}, []int{3}},

		{"an index of the highest level", led{3: index(11, "m", 4, 5), 4: index(10, "m", 6, 7), 5: index(10, "m", 6, 7)}, []api.Tree{tree(3, 12, 1)}, []int{6, 7}},
		{"children of the level 0", led{3: index(1, "mst", 4, 5, 6, 7), 4: leaf("a"), 5: index(1, "m", 8, 9), 6: part(9, 8)}, []api.Tree{tree(3, 2, 8)}, []int{5, 6, 7}},
		{"children of the level 1", led{3: index(2, "mst", 4, 5, 6, 7), 4: index(1, "m", 8, 9), 5: leaf("a"), 6: part(9, 10), 7: index(2, "m", 10, 10)}, []api.Tree{tree(3, 3, 8)}, []int{5, 6, 7, 8, 9}},
		{"values", led{3: leaf("q"), 4: long(5), 5: part(50, 0)}, []api.Tree{tree(3, 1, 1), tree(4, 1, 4)}, nil},
		{"a value that was never written", led{4: long(5)}, []api.Tree{tree(4, 1, 4)}, []int{5}},
		{"a value that is a leaf", led{4: long(5), 5: leaf("a")}, []api.Tree{tree(4, 1, 4)}, []int{5}},
		{"a value that is an index", led{4: long(5), 5: index(1, "m", 6, 7)}, []api.Tree{tree(4, 1, 4)}, []int{5}},
		{"a value that is its own leaf", led{4: long(4)}, []api.Tree{tree(4, 1, 4)}, []int{4}},
		{"the rest of a value", led{4: long(5), 5: part(480, 6), 6: part(480, 7), 7: leaf("a")}, []api.Tree{tree(4, 1, 4)}, []int{7}},
		{"the rest of a value that was never written", led{4: long(5), 5: part(480, 6)}, []api.Tree{tree(4, 1, 4)}, []int{6}},
		{"all values of a leaf", led{4: {Kind: leafKind, Items: []api.Item{{Key: []byte("a"), Size: 33, Child: 9}, {Key: []byte("b")}, {Key: []byte("c"), Size: 3840, Child: 7}, {Key: []byte("d"), Size: 33, Child: 9}}}}, []api.Tree{tree(4, 1, 4)}, []int{7, 9}},

		{"rising, whatever comes first", nil, []api.Tree{tree(9, 1, 1), tree(2, 2, 1), tree(10, 12, 1), tree(1, 1, 1)}, []int{1, 2, 9, 10}},
		{"each once", led{3: index(1, "mst", 7, 4, 7, 4)}, []api.Tree{tree(3, 2, 1), tree(3, 2, 1), tree(7, 1, 1), tree(4, 3, 1)}, []int{4, 7}},
		{"a leaf, as two things", led{3: leaf("a")}, []api.Tree{tree(3, 1, 1), tree(3, 2, 1)}, []int{3}},
		{"none of three things", led{3: part(9, 4)}, []api.Tree{tree(3, 1, 1), tree(3, 2, 1), tree(3, 3, 1)}, []int{3}},
		{"an index, as two things; what is beneath is gone into", led{3: index(1, "m", 4, 5), 5: leaf("m")}, []api.Tree{tree(3, 1, 1), tree(3, 2, 1)}, []int{3, 4}},
		{"the same, the right one first", led{3: index(1, "m", 4, 5), 5: leaf("m")}, []api.Tree{tree(3, 2, 1), tree(3, 1, 1)}, []int{3, 4}},
		{"a leaf as a value as well", led{3: leaf("a"), 4: long(3)}, []api.Tree{tree(3, 1, 1), tree(4, 1, 4)}, []int{3}},
		{"a value as a leaf as well", led{3: part(50, 5), 4: long(3)}, []api.Tree{tree(3, 1, 1), tree(4, 1, 4)}, []int{3, 5}},

		{"what leads beyond the plan", led{3: index(1, "m", 4, 11)}, []api.Tree{tree(3, 2, 1)}, []int{3}},
		{"what leads far beyond it", led{3: index(1, "m", 65536, 4)}, []api.Tree{tree(3, 2, 1)}, []int{3}},
		{"what leads to its last page", led{3: index(1, "m", 10, 10), 10: leaf("a")}, []api.Tree{tree(3, 2, 1)}, nil},
		{"a leaf that leads beyond it", led{4: long(11)}, []api.Tree{tree(4, 1, 4)}, []int{4}},
		{"a leaf that leads to its last page", led{4: long(10), 10: part(50, 0)}, []api.Tree{tree(4, 1, 4)}, nil},
		{"a blob that leads beyond it", led{4: long(5), 5: part(480, 11)}, []api.Tree{tree(4, 1, 4)}, []int{5}},
		{"a blob that leads to its last page", led{4: long(5), 5: part(480, 10), 10: part(1, 0)}, []api.Tree{tree(4, 1, 4)}, nil},

		{"pages that only a bad one leads to", led{3: index(2, "m", 4, 5), 4: index(1, "m", 6, 7), 5: index(1, "m", 8, 11)}, []api.Tree{tree(3, 3, 1)}, []int{5, 6, 7}},
		{"a page that a right one leads to as well", led{3: index(2, "m", 4, 5), 4: index(1, "m", 6, 8), 5: index(1, "m", 8, 11), 6: leaf("a")}, []api.Tree{tree(3, 3, 1)}, []int{5, 8}},
		{"what a bad root leads to", led{3: index(1, "m", 4, 5)}, []api.Tree{tree(3, 3, 1)}, []int{3}},

		{"an index that leads to itself", led{3: index(1, "m", 3, 4)}, []api.Tree{tree(3, 2, 1)}, []int{3, 4}},
		{"a value that leads to itself", led{4: long(5), 5: part(480, 5)}, []api.Tree{tree(4, 1, 4)}, nil},
		{"values in a ring", led{4: long(5), 5: part(480, 6), 6: part(480, 7), 7: part(1, 5)}, []api.Tree{tree(4, 1, 4)}, nil},
		{"what is not sound otherwise", led{3: index(1, "m", 4, 4), 4: {Kind: leafKind, Items: []api.Item{{Key: []byte("z"), Size: 3840, Child: 5}}}, 5: part(7, 0)}, []api.Tree{tree(3, 2, 77), tree(3, 2, 1)}, nil},
	} {
		f := plot(t, c.pages, c.trees...)
		badPages(t, c.what, f, c.bad...)
		slices.Reverse(f.s.Roots)
		for k := range f.s.Roots {
			f.s.Roots[k].Id = k + 1
		}
		badPages(t, c.what+", the roots the other way round", f, c.bad...)
	}
}

// P22.3: of a page that is gone into: its generation, its number, its bytes.
func TestP22_3Blocks(t *testing.T) {
	whole := led{3: index(1, "m", 4, 5), 4: leafOf("abcd", 50, 6), 5: leaf("mnop"), 6: part(50, 0)}
	for n, p := range whole {
		for gen, isBad := range map[int]bool{0: false, 5: false, 6: false, 7: true, maxGen: true} {
			f := plot(t, whole, tree(3, 2, 8))
			f.layPage(t, n, gen, p)
			what := fmt.Sprintf("page %d of the generation %d", n, gen)
			if isBad {
				badPages(t, what, f, n)
			} else {
				badPages(t, what, f)
			}
		}
		for other := range whole {
			if other != n {
				f := plot(t, whole, tree(3, 2, 8))
				f.blocks[3+n] = f.blocks[3+other]
				badPages(t, fmt.Sprintf("page %d has the block of page %d", n, other), f, n)
			}
		}
		f := plot(t, whole, tree(3, 2, 8))
		f.blocks[3+n] = make([]byte, blockSize)
		badPages(t, "a page of bytes 0", f, n)
		f.blocks[3+n] = anyBytes(n)
		badPages(t, "a page of any bytes", f, n)
		f.blocks[3+n] = f.blocks[f.bank()]
		badPages(t, "a page that is a block of the bank", f, n)
	}
}

// P22.3: no count is looked at, whether a page has one or not.
func TestP22_3Counts(t *testing.T) {
	pages := led{3: index(1, "m", 4, 5), 4: leaf("abcd"), 7: leaf("a")}
	for _, counts := range [][]int{make([]int, 10), {0, 0, 1, 1, 1, 0, 0, 0, 0, 0}, slices.Repeat([]int{9}, 10), slices.Repeat([]int{65535}, 10)} {
		f := plot(t, pages, tree(3, 2, 8))
		f.layBank(t, counts)
		badPages(t, fmt.Sprint(counts), f, 5)
	}
}

// P22.3: the blocks of the bank, of each slot, and those of pages beside them.
func TestP22_3Bank(t *testing.T) {
	t.Parallel()
	r := draw.Numbers(831)
	for gen := range 4 {
		for _, pages := range []int{9, 300, 721} {
			f := &lying{s: api.Super{Gen: gen, Config: configOf(t, &r, pages, 9, 2), Next: 3, Roots: roots(tree(1, 1, 1), tree(pages, 1, 1))}}
			f.plan, _ = super.Plan(f.s.Config)
			f.blocks = slices.Repeat([][]byte{make([]byte, blockSize)}, f.s.Config.Blocks)
			f.layBank(t, make([]int, pages))
			f.layPage(t, 1, gen, leaf("a"))
			f.layPage(t, pages, gen, leaf("b"))
			for range 12 {
				x := &lying{slices.Clone(f.blocks), f.s, f.plan}
				var want []int
				for _, at := range f.own(append(append([]int{1}, make([]int, pages-2)...), 1)) {
					if r.Below(2) == 0 {
						x.blocks[at] = [][]byte{make([]byte, blockSize), r.Bytes(blockSize), f.blocks[at-1]}[r.Below(3)]
						want = append(want, at)
					}
				}
				l, e := bad(t, x.disk(t), x.s)
				equal(t, "Bad", e, 0)
				equalLists(t, "Bad", l, want)
			}
		}
	}
}

// wild is a disk of pages that lead anywhere, with roots of any kind.
func wild(t *testing.T, r *draw.Numbers) *lying {
	t.Helper()
	pages := 4 + r.Below(9)
	f := &lying{s: api.Super{Gen: r.Below(4), Config: configOf(t, r, pages, 9, 4)}}
	var trees []api.Tree
	for range 1 + r.Below(4) {
		trees = append(trees, tree(1+r.Below(pages), 1+r.Below(4), 1+r.Below(9)))
	}
	f.s.Roots, f.s.Next = risingRoots(r, trees)
	f.plan, _ = super.Plan(f.s.Config)
	f.blocks = make([][]byte, f.s.Config.Blocks)
	for at := range f.blocks {
		f.blocks[at] = f.junk(t, r, at)
	}
	f.layBank(t, make([]int, pages))
	if r.Below(3) == 0 {
		f.blocks[f.bank()] = f.junk(t, r, f.bank())
	}
	beyond := r.Below(6) / 5
	for n := 1; n <= pages; n++ {
		if r.Below(8) > 0 {
			f.layPage(t, n, r.Below(f.s.Gen+1), wildPage(r, pages, beyond))
		}
	}
	return f
}

// wildPage is a page that leads anywhere, perhaps so far beyond the plan.
func wildPage(r *draw.Numbers, pages, beyond int) api.Page {
	for {
		p := grove.AnyPage(r, pages)
		for k, i := range p.Items {
			if i.Child > pages+beyond {
				p.Items[k].Child = pages
			}
		}
		p.Next = min(p.Next, pages+beyond)
		if page.Check(p) == api.OK {
			return p
		}
	}
}

// P22.3: disks of pages that lead anywhere, as several things, in rings, beyond the plan.
func TestP22_3Wild(t *testing.T) {
	t.Parallel()
	r, met := draw.Numbers(832), met{}
	for range 12000 {
		f := wild(t, &r)
		d := f.disk(t)
		l, _ := bad(t, d, f.s)
		met[fmt.Sprintf("%d bad", min(len(l), 4))]++
		met.tally(modelInto(d, f.s, f.plan))
	}
	met.wants(t, 20, "0 bad")
	met.wants(t, 300, "1 bad", "2 bad", "3 bad", "4 bad", "of several things none", "of several things one", "right", "not right")
}

// tally counts pages that are led to as several things.
func (m met) tally(into map[ledAs]bool) {
	things, right := map[int]int{}, map[int]int{}
	for x, isRight := range into {
		things[x.no]++
		if isRight {
			right[x.no]++
			m["right"]++
		} else {
			m["not right"]++
		}
	}
	for n, c := range things {
		if c > 1 && right[n] == 0 {
			m["of several things none"]++
		} else if c > 1 {
			m["of several things one"]++
		}
	}
}

// A disk of many pages, each of which leads to many others: Bad ends soon.
func TestP22_3ManyPages(t *testing.T) {
	t.Parallel()
	const pages = 3000
	f := &lying{s: api.Super{Config: api.Config{Blocks: 2 + 2*13 + pages, Clones: 16, Refs: 9}, Next: 99}}
	f.plan, _ = super.Plan(f.s.Config)
	equal(t, "pages", f.plan.Pages, pages)
	f.blocks = slices.Repeat([][]byte{make([]byte, blockSize)}, f.s.Config.Blocks)
	f.layBank(t, make([]int, pages))
	var trees []api.Tree
	for n := 1; n <= pages; n++ { // so that ways down, were each gone, would be 8^11
		level := 11 - n%12
		p := leafOf("abcd", 50, 1+(n*7)%pages)
		if level > 0 {
			p = index(level, "bcdefgh", 1+(n+12)%pages, 1+n%pages, 1+(n+24)%pages, 1+(n+36)%pages, 1+(n+48)%pages, 1+(n+60)%pages, 1+(n+72)%pages, 1+(n+84)%pages)
		}
		f.layPage(t, n, 0, p)
		if n%12 == 0 && len(trees) < 16 {
			trees = append(trees, tree(n, 12, 1))
		}
	}
	f.s.Roots = roots(trees...)
	l, e := bad(t, f.disk(t), f.s)
	equal(t, "Bad", e, 0)
	equal(t, "some are bad, others are not", len(l) > 50 && len(l) < pages, true)
}

// The alarm, the power and what was not synced: Bad reads what the blocks show.
func TestP22_3Unsynced(t *testing.T) {
	f := plot(t, led{3: leaf("a")}, tree(3, 1, 1))
	d := f.disk(t)
	written(t, d, 6, make([]byte, blockSize))
	d.Arm(0)
	unwritten(t, d, func() {
		l, e := bad(t, d, f.s)
		equal(t, "Bad", e, 0)
		equalLists(t, "Bad", l, []int{6})
	})
	equal(t, "the power fails at the next act alone", d.Sync(), errDown)
	_, e := bad(t, d, f.s)
	equal(t, "Bad without power", e, errDown)
	d.On(nil)
	l, _ := bad(t, d, f.s)
	equalLists(t, "Bad of what lasts", l, nil)
}

// P22.3: ErrOther, if the Config's Blocks are not the disk's, though all else is right.
func TestP22_3OtherDisk(t *testing.T) {
	f := plot(t, led{3: leaf("a")}, tree(3, 1, 1))
	for _, blocks := range []int{8, 13, 15, 300} {
		d, _ := disk.New(blocks)
		_, e := bad(t, d, f.s)
		equal(t, fmt.Sprint(blocks), e, errOther)
	}
}
