package fsck_test

import (
	"fmt"
	"slices"
	"testing"

	"coppice/api"
	"coppice/draw"
	"coppice/fork"
	"coppice/fsck"
	"coppice/grove"
	"coppice/put"
	"coppice/vault"
)

// stands: Whole takes the wood with just its trees.
func (w *wood) stands(t *testing.T) api.Report {
	t.Helper()
	report, e := whole(t, w.v, w.roots())
	equal(t, fmt.Sprintf("Whole of %v", w.trees), e, 0)
	equal(t, "Trees", report.Trees, len(w.trees))
	equal(t, "Bad", len(report.Bad), 0)
	equal(t, "Pages", report.Pages, w.v.Tally(fresh)+w.v.Tally(held))
	equal(t, "Pages by their kinds", report.Leaves+report.Index+report.Blobs, report.Pages)
	return report
}

// P22.4: a vault in which puts, cuts, clones, drops, bulks, merges and differences have made
// trees out of an empty one is taken, behind each step, with just these trees.
func TestP22_4WhatStandsIsWhole(t *testing.T) {
	t.Parallel()
	r, all := draw.Numbers(811), met{}
	for round := range 60 {
		w := newWood(t, &r, []int{30, 30, 120, 300}[round%4], 2+r.Below(8))
		for range 70 {
			w.step()
			w.stands(t)
		}
		for what, n := range w.met {
			all[what] += n
		}
		for len(w.trees) > 0 {
			equal(t, "drop", w.drop(), 0)
			w.stands(t)
		}
		taken(t, "behind dropping all trees", w.v, api.Report{})
	}
	all.wants(t, 30, "put 0", "cut 0", "clone 0", "drop 0", "build 0", "load 0", "trim 0", "apply 0", "merge 0", "make 0", "settle 0", "undo 0", "put 12", "build 12")
	all.wants(t, 5, "load 12", "apply 12", "clone 13", "put 13", "merge 26")
}

// P22.1 and P22.4 of trees that were made by hand, on pages whose numbers follow no rule, of
// each height, and of what comes of them.
func TestP22_4GrownTrees(t *testing.T) {
	t.Parallel()
	r := draw.Numbers(812)
	for _, g := range grove.Trees(&r, 5) {
		w := grownWood(t, &r, g, 40, r.Below(2)*6)
		w.stands(t)
	}
	high := grove.Grow(&r, grove.Pairs(&r, grove.Fewest(7), 40000), grove.Few)
	w := grownWood(t, &r, high, 30, 0)
	report := w.stands(t)
	equal(t, "Height", w.trees[0].Height, 7)
	equal(t, "Items", report.Items, len(w.trees)*grove.Fewest(7))
}

// P22.5: the same roots in any other order, or by other ids, are taken with the same report.
func TestP22_5AnyOrder(t *testing.T) {
	t.Parallel()
	r := draw.Numbers(813)
	for range 60 {
		w := someWood(t, &r, 200, 25)
		want := told(w.stands(t))
		for range 6 {
			report, e := fsck.Whole(w.v, w.roots())
			equal(t, "Whole", fmt.Sprint(e, told(report)), fmt.Sprint(api.OK, want))
		}
		same := roots(w.trees...)
		for k := range same {
			same[k].Id = 7
		}
		report, e := fsck.Whole(w.v, same)
		equal(t, "Whole of roots of one id", fmt.Sprint(e, told(report)), fmt.Sprint(api.OK, want))
	}
}

// P22.5: one root more, or one fewer, that is no empty tree, is ErrCorrupt; and so is one in
// the place of another one, unless it is the same. With empty trees only Trees is more.
func TestP22_5OneMoreOrFewer(t *testing.T) {
	t.Parallel()
	r, met := draw.Numbers(814), met{}
	for range 60 {
		w := someWood(t, &r, 200, 25)
		report := w.stands(t)
		for k, x := range w.trees {
			fewer := without(w.trees, k)
			more := append(slices.Clone(w.trees), x)
			if x == empty {
				report.Trees = len(fewer)
				taken(t, "an empty tree fewer", w.v, report, fewer...)
				report.Trees = len(more)
				taken(t, "an empty tree more", w.v, report, more...)
				met["empty"]++
				continue
			}
			refused(t, "one root fewer", w.v, fewer...)
			refused(t, "one root more", w.v, more...)
			met["one fewer, one more"]++
			if other := w.trees[w.some()]; other != x {
				refused(t, "one in the place of another one", w.v, append(fewer, other)...)
				met["another one"]++
			}
		}
		report.Trees = len(w.trees) + 3
		at := r.Below(len(w.trees) + 1)
		taken(t, "three empty trees more", w.v, report, slices.Insert(slices.Clone(w.trees), at, empty, empty, empty)...)
		for n, x := range beneath(w) {
			refused(t, fmt.Sprintf("what is beneath page %d as one root more", n), w.v, append(slices.Clone(w.trees), x)...)
			met["what is beneath a page"]++
		}
	}
	met.wants(t, 10, "empty", "one fewer, one more", "another one", "what is beneath a page")
}

// beneath is a tree of what is beneath some pages of a wood: each of them is sound.
func beneath(w *wood) map[int]api.Tree {
	s, l := grove.StoreFrom(w.v), map[int]api.Tree{}
	for n := 1; n <= w.v.Len(); n++ {
		p := s.On[n-1]
		if w.v.Count(n) == 0 || p.Kind == blobKind || w.r.Below(4) > 0 {
			continue
		}
		m := &soundness{s: s, gone: map[int]int{}}
		if m.page(n, p.Level, true, nil, nil) {
			l[n] = tree(n, p.Level+1, m.keys)
		}
	}
	return l
}

// P22.1: one tree that is named several times counts each time; so do the bytes of values
// that trees share. Reports by hand.
func TestP22_1Report(t *testing.T) {
	v := newVault(t, 30, 9)
	x, _, e := put.Put(v, empty, []byte("a"), grove.Value(1000)) // 3 pages and the leaf
	equal(t, "Put", e, 0)
	taken(t, "a long value", v, api.Report{Trees: 1, Pages: 4, Leaves: 1, Blobs: 3, Items: 1, Bytes: 1000}, x)
	y, e := fork.Clone(v, x)
	equal(t, "Clone", e, 0)
	taken(t, "a clone of it", v, api.Report{Trees: 2, Pages: 4, Leaves: 1, Blobs: 3, Items: 2, Bytes: 2000}, x, y)
	y, _, e = put.Put(v, y, []byte("b"), grove.Value(32)) // another leaf, which shares the value
	equal(t, "Put", e, 0)
	taken(t, "a value that is shared", v, api.Report{Trees: 2, Pages: 5, Leaves: 2, Blobs: 3, Items: 3, Bytes: 2032}, y, x)
	y, _, e = put.Put(v, y, []byte("a"), nil)
	equal(t, "Put", e, 0)
	taken(t, "a value that is shared no more", v, api.Report{Trees: 2, Pages: 5, Leaves: 2, Blobs: 3, Items: 3, Bytes: 1032}, y, x)
	equal(t, "Drop", fork.Drop(v, x), 0)
	taken(t, "the other one alone", v, api.Report{Trees: 1, Pages: 1, Leaves: 1, Items: 2, Bytes: 32}, y)
	for _, k := range []byte("cdefghi") {
		y, _, e = put.Put(v, y, []byte{k}, []byte{k})
		equal(t, "Put", e, 0)
	}
	z, e := fork.Clone(v, y)
	equal(t, "Clone", e, 0)
	z, _, e = put.Put(v, z, []byte("a"), grove.Value(33)) // an index, a leaf and a value of its own
	equal(t, "Put", e, 0)
	taken(t, "a leaf that is shared", v, api.Report{Trees: 2, Pages: 6, Leaves: 3, Index: 2, Blobs: 1, Items: 18, Bytes: 78 + 33}, y, z)
	taken(t, "and empty ones", v, api.Report{Trees: 5, Pages: 6, Leaves: 3, Index: 2, Blobs: 1, Items: 18, Bytes: 78 + 33}, empty, z, empty, y, empty)
}

// P22.1: parts of values that trees share, as a first part here, as a later one there.
func TestP22_1SharedParts(t *testing.T) {
	pages := []api.Page{leafOf("a", 961, 2), part(480, 3), part(480, 4), part(1, 0), leafOf("b", 481, 3), leafOf("c", 481, 7), part(480, 4)}
	x, y, z := tree(1, 1, 1), tree(5, 1, 1), tree(6, 1, 1)
	s := counted(9, 2, pages, x, y, z)
	equalLists(t, "the counts", s.Counts, []int{1, 1, 2, 2, 1, 1, 1, 0, 0})
	v := vaultOf(t, s)
	taken(t, "all", v, api.Report{Trees: 3, Pages: 7, Leaves: 3, Blobs: 4, Items: 3, Bytes: 961 + 481 + 481}, y, z, x)
	refused(t, "two of them", v, x, y)
	equal(t, "Drop", fork.Drop(v, x), 0)
	taken(t, "two of them, the third one being dropped", v, api.Report{Trees: 2, Pages: 5, Leaves: 2, Blobs: 3, Items: 2, Bytes: 481 + 481}, y, z)
}

// P22.1: a tree that is named as often as can be.
func TestP22_1ManyTimes(t *testing.T) {
	v, x := example(t)
	for range 8 {
		equal(t, "Keep", v.Keep(3), 0)
	}
	taken(t, "nine times", v, api.Report{Trees: 9, Pages: 3, Leaves: 2, Index: 1, Items: 72, Bytes: 144}, slices.Repeat([]api.Tree{x}, 9)...)
	refused(t, "eight times", v, slices.Repeat([]api.Tree{x}, 8)...)
	refused(t, "ten times", v, slices.Repeat([]api.Tree{x}, 10)...)

	const often = 65535
	s := counted(often, 1, []api.Page{leaf("abcd"), leaf("mnop"), index(1, "m", 1, 2)}, x)
	s.Counts[2], s.Lasts[2] = often, 1
	big := vaultOf(t, s)
	report, e := fsck.Whole(big, roots(slices.Repeat([]api.Tree{x, empty}, often)...))
	equal(t, "as often as can be", e, 0)
	equal(t, "as often as can be", told(report), told(api.Report{Trees: 2 * often, Pages: 3, Leaves: 2, Index: 1, Items: 8 * often, Bytes: 16 * often}))
	_, e = fsck.Whole(big, roots(slices.Repeat([]api.Tree{x, empty}, often-1)...))
	equal(t, "one fewer", e, errCorrupt)
	_, e = fsck.Whole(big, roots(slices.Repeat([]api.Tree{x}, often+1)...))
	equal(t, "one more", e, errCorrupt)
}

// among is a wood's trees in another vault, a store's.
func (w *wood) among(t *testing.T, s *grove.Store) *vault.Vault {
	t.Helper()
	s.Refs = max(s.Refs, slices.Max(s.Counts))
	return vaultOf(t, s)
}

// P22.1: a count that is one too high, or one too low, of each page.
func TestP22_1Counts(t *testing.T) {
	t.Parallel()
	r, met := draw.Numbers(815), met{}
	for range 30 {
		w := someWood(t, &r, 60, 25)
		s := grove.StoreFrom(w.v)
		for k, c := range s.Counts {
			if c == 0 {
				continue
			}
			for _, other := range []int{c - 1, c + 1, c + 2} {
				x := s.Copy()
				x.Counts[k] = other
				refused(t, fmt.Sprintf("page %d with the count %d, not %d", k+1, other, c), w.among(t, x), w.trees...)
				met[fmt.Sprint(min(c, 3), " ", min(other, 4))]++
			}
		}
		taken(t, "as it was", w.among(t, s.Copy()), w.stands(t), w.trees...)
	}
	met.wants(t, 20, "1 0", "1 2", "2 1", "2 3", "3 2", "3 4")
}

// P22.1: two counts that are wrong, the sum of all being right.
func TestP22_1TwoCounts(t *testing.T) {
	t.Parallel()
	r, some := draw.Numbers(816), 0
	for range 40 {
		w := someWood(t, &r, 60, 25)
		s := grove.StoreFrom(w.v)
		for k, c := range s.Counts {
			to := r.Below(len(s.Counts))
			if c < 2 || to == k || s.Counts[to] == 0 {
				continue
			}
			x := s.Copy()
			x.Counts[k]--
			x.Counts[to]++
			refused(t, "two counts", w.among(t, x), w.trees...)
			some++
		}
	}
	equal(t, "some were met", some > 50, true)
}

// P22.1: a page that is led to by nothing, of any kind and count, and pages that lead to one
// another alone.
func TestP22_1LedToByNothing(t *testing.T) {
	t.Parallel()
	r := draw.Numbers(817)
	for range 25 {
		w := someWood(t, &r, 60, 20)
		for _, p := range []api.Page{leaf("a"), leaf("abcd"), part(480, 0), grove.AnyPage(&r, w.v.Len())} {
			s := grove.StoreFrom(w.v)
			for k, c := range s.Counts {
				if c > 0 || r.Below(4) > 0 {
					continue
				}
				x := s.Copy()
				x.On[k], x.Counts[k] = p, 1+r.Below(2)
				refused(t, fmt.Sprintf("page %d", k+1), w.among(t, x), w.trees...)
			}
		}
	}
	v, x := example(t)
	s := grove.StoreFrom(v)
	s.On[3], s.Counts[3] = part(480, 4), 1 // it leads to itself
	refused(t, "a ring of one", vaultOf(t, s), x)
	s.On[3], s.On[4], s.Counts[4] = part(480, 5), part(480, 4), 1
	refused(t, "a ring of two", vaultOf(t, s), x)
	s.On[3], s.On[4] = leaf("q"), leaf("qr")
	refused(t, "two trees that are not named", vaultOf(t, s), x)
	refused(t, "one that is not named", vaultOf(t, s), x, tree(4, 1, 1))
	taken(t, "all are named", vaultOf(t, s), api.Report{Trees: 3, Pages: 5, Leaves: 4, Index: 1, Items: 11, Bytes: 22}, tree(5, 1, 2), x, tree(4, 1, 1))
}

// P22.1: a root's number, height or count of items is none that may be.
func TestP22_1NoTree(t *testing.T) {
	t.Parallel()
	r := draw.Numbers(818)
	for range 12 {
		w := someWood(t, &r, 60, 25)
		if len(w.trees) == 0 {
			continue
		}
		at := w.some()
		x, n := w.trees[at], w.v.Len()
		is := func(other api.Tree) {
			t.Helper()
			if other != x {
				refused(t, fmt.Sprintf("%v in the place of %v", other, x), w.v, append(without(w.trees, at), other)...)
			}
			if other != empty {
				refused(t, fmt.Sprintf("%v beside the others", other), w.v, append(slices.Clone(w.trees), other)...)
			}
		}
		for _, root := range []int{lowest, -1, 0, n + 1, 65536, 65537, 1<<32 + x.Root, greatest} {
			if other := tree(root, x.Height, x.Items); other != empty {
				is(other)
			}
		}
		for _, height := range []int{lowest, -1, 0, x.Height - 1, x.Height + 1, 12, 13, 1<<32 + x.Height, greatest} {
			if other := tree(x.Root, height, x.Items); other != empty {
				is(other)
			}
		}
		for _, items := range []int{lowest, -1, 0, x.Items - 1, x.Items + 1, 1<<32 + x.Items, greatest} {
			if other := tree(x.Root, x.Height, items); other != empty {
				is(other)
			}
		}
		for n, p := range w.v.Pages(free) {
			is(tree(n, p.Level+1, 1))
		}
		for n := range w.v.Pages(pending) {
			is(tree(n, x.Height, x.Items))
		}
	}
}

// P22.1: trees that are not sound, by hand; all counts are right for what leads there.
func TestP22_1NotSound(t *testing.T) {
	good := []api.Page{leafOf("abcd", 481, 4), leaf("mnop"), index(1, "m", 1, 2), part(480, 5), part(1, 0), leaf("stuv"), part(1, 0), index(2, "s", 3, 9), index(1, "w", 6, 10), leaf("wxyz")}
	change := func(others map[int]api.Page) []api.Page {
		l := slices.Clone(good)
		for n, p := range others {
			l[n-1] = p
		}
		return l
	}
	low := tree(3, 2, 8)
	for _, c := range []struct {
		what   string
		others map[int]api.Page
		tree   api.Tree
	}{
		{"a leaf of three", map[int]api.Page{2: leaf("mno")}, tree(3, 2, 7)},
		{"a key above the range", map[int]api.Page{1: leafOf("abcm", 481, 4)}, low},
		{"a key below the range", map[int]api.Page{2: leaf("lmno")}, low},
		{"one leaf twice", map[int]api.Page{3: index(1, "m", 1, 1)}, low},
		{"a leaf as the root of two levels", nil, tree(2, 2, 4)},
		{"an index as the root of one level", nil, tree(3, 1, 8)},
		{"a value as a root", nil, tree(4, 1, 1)},
		{"a value as a leaf", map[int]api.Page{3: index(1, "m", 1, 7)}, tree(3, 2, 4)},
		{"an index as a leaf", map[int]api.Page{3: index(1, "m", 1, 9)}, low},
		{"an index that leads to itself", map[int]api.Page{3: index(1, "m", 1, 3)}, low},
		{"a leaf as an index", map[int]api.Page{8: index(2, "s", 3, 6)}, tree(8, 3, 12)},
		{"an index of two under another one", nil, tree(8, 3, 16)},
		{"a value of a part too many", map[int]api.Page{1: leafOf("abcd", 480, 4)}, low},
		{"a value of a part too few", map[int]api.Page{1: leafOf("abcd", 481, 7)}, low},
		{"a value that is shorter", map[int]api.Page{1: leafOf("abcd", 482, 4)}, low},
		{"a value that is longer", map[int]api.Page{1: leafOf("abcd", 33, 7), 7: part(34, 0)}, low},
		{"a part that is not full", map[int]api.Page{4: part(479, 5)}, low},
		{"a value that is a leaf", map[int]api.Page{1: leafOf("abcd", 481, 6)}, low},
		{"a value whose rest is a leaf", map[int]api.Page{4: part(480, 6)}, low},
		{"a value in a ring", map[int]api.Page{4: part(480, 4)}, low},
		{"one value of two items", map[int]api.Page{2: leafOf("mnop", 481, 4)}, low},
		{"one part of two values", map[int]api.Page{2: leafOf("mnop", 33, 5), 5: part(33, 0), 1: leafOf("abcd", 513, 4)}, low},
	} {
		s := counted(9, 1, change(c.others), c.tree)
		v := vaultOf(t, s)
		refused(t, c.what, v, c.tree)
		refused(t, c.what+", beside an empty tree", v, empty, c.tree)
	}
	taken(t, "the sound one", vaultOf(t, counted(9, 1, good, low)), api.Report{Trees: 1, Pages: 5, Leaves: 2, Index: 1, Blobs: 2, Items: 8, Bytes: 14 + 481}, low)
}

// P22.1: of trees of which one page is another one, all counts being right for what leads
// there, just those are taken that are sound.
func TestP22_1OnePageIsAnother(t *testing.T) {
	t.Parallel()
	r, met := draw.Numbers(819), met{}
	for range 150 {
		w := someWood(t, &r, 60, 15)
		s := grove.StoreFrom(w.v)
		for range 12 {
			x, n := s.Copy(), 1+r.Below(len(s.On))
			if x.On[n-1].Kind == 0 {
				continue
			}
			x.On[n-1] = otherPage(&r, x, n)
			clear(x.Counts)
			for at, c := range modelCounts(x, w.trees) {
				if at <= len(x.Counts) {
					x.Counts[at-1] = c
				}
			}
			for at, p := range x.On {
				if p.Kind == 0 { // nothing stands there
					x.Counts[at] = 0
				}
			}
			_, e := whole(t, w.among(t, x), w.roots())
			met[fmt.Sprint(int(e))]++
		}
	}
	met.wants(t, 100, "0", "18")
}

// otherPage is a page in the place of another one: like it but for one thing, or any page.
func otherPage(r *draw.Numbers, s *grove.Store, n int) api.Page {
	p := s.Page(n)
	switch r.Below(5) {
	case 0:
		return grove.AnyPage(r, len(s.On))
	case 1:
		if q := s.On[r.Below(len(s.On))]; q.Kind != 0 {
			return q
		}
	}
	if p.Kind == blobKind {
		p.Data = grove.Value(len(p.Data))
		return p
	}
	at := r.Below(len(p.Items))
	switch i := &p.Items[at]; {
	case p.Kind == leafKind && r.Below(2) == 0 && len(p.Items) > 1:
		p.Items = slices.Delete(p.Items, at, at+1)
	case p.Kind == leafKind:
		i.Value, i.Size, i.Child = nil, 0, 0
	case r.Below(2) == 0:
		i.Child = 1 + r.Below(len(s.On))
	}
	return p
}
