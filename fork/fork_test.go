package fork_test

import (
	"fmt"
	"slices"
	"testing"

	"coppice/api"
	"coppice/draw"
	"coppice/fork"
	"coppice/grove"
	"coppice/vault"
	"coppice/walk"
)

// The chapter's table, row by row.
func TestExamples(t *testing.T) {
	for lasts := range 2 {
		v := lay(t, 2, lasts, []int{1, 2, 1, 1, 1}, L("abcd"), L("mnop"), N(1, 2), N(5, 2), L("efgh"))
		s, x := tree(3, 2, 8), tree(4, 2, 8)
		unchanged(t, v, func() {
			equalLists(t, "Counts(v, s, t)", counts(t, v, s, x), []int{1, 2, 1, 1, 1})
			equalLists(t, "Counts(v, t)", counts(t, v, x), []int{0, 1, 0, 1, 1})
			equalLists(t, "Counts(v)", counts(t, v), []int{0, 0, 0, 0, 0})
			equalLists(t, "Counts(v, the empty tree)", counts(t, v, empty), []int{0, 0, 0, 0, 0})
			equalLists(t, "Reach(v, t)", reach(t, v, x), []int{2, 4, 5})
			equalLists(t, "Only(v, t, s)", only(t, v, x, s), []int{4, 5})
			equalLists(t, "Only(v, t)", only(t, v, x), []int{2, 4, 5})
			equalLists(t, "Only(v, s, t, t)", only(t, v, s, x, x), []int{1, 3})
			equal(t, "Freed(v, s)", freed(t, v, s), 2)
			equal(t, "Freed(v, the empty tree)", freed(t, v, empty), 0)
			equalLists(t, "Reach(v, the empty tree)", reach(t, v, empty), nil)
		})
		u, e := clones(t, v, s)
		equal(t, "u", fmt.Sprint(u, e), fmt.Sprint(s, api.OK))
		_, e = clones(t, v, s)
		equal(t, "Clone(v, s) once more", e, errRefs)
		equal(t, "Freed(v, u)", freed(t, v, u), 0)
		drops(t, v, s, u, x)
		equalLists(t, "the counts", v.Counts(), []int{1, 2, 1, 1, 1})
		drops(t, v, u, x)
		equalLists(t, "the counts", v.Counts(), []int{0, 1, 0, 1, 1})
		unchanged(t, v, func() {
			y, e := fork.Clone(v, empty)
			equal(t, "Clone(v, the empty tree)", fmt.Sprint(y, e), fmt.Sprint(empty, api.OK))
			equal(t, "Drop(v, the empty tree)", fork.Drop(v, empty), 0)
		})
	}
}

// The empty tree, in vaults with all kinds of pages in them.
func TestP17EmptyTree(t *testing.T) {
	r := draw.Numbers(311)
	for round := range 60 {
		s, trees := grove.Settings(&r).Lay(&r, grove.Any(&r, 1+round%3))
		for _, v := range []*vault.Vault{vaultOf(t, s), newVault(t, 1, 2)} {
			none := make([]int, v.Len())
			unchanged(t, v, func() {
				y, e := fork.Clone(v, empty)
				equal(t, "Clone", fmt.Sprint(y, e), fmt.Sprint(empty, api.OK))
				equal(t, "Drop", fork.Drop(v, empty), 0)
				equalLists(t, "Counts", counts(t, v, empty), none)
				equalLists(t, "Counts of it twice", counts(t, v, empty, empty), none)
				equalLists(t, "Counts of no tree", counts(t, v), none)
				equalLists(t, "Reach", reach(t, v, empty), nil)
				equalLists(t, "Only", only(t, v, empty, empty), nil)
				equal(t, "Freed", freed(t, v, empty), 0)
			})
		}
		v := vaultOf(t, s)
		unchanged(t, v, func() {
			tells(t, v, empty, trees[0], empty)
			equalLists(t, "Counts", counts(t, v, empty, trees[0], empty), counts(t, v, trees[0]))
			equalLists(t, "Only of another one", only(t, v, trees[0], empty, empty), reach(t, v, trees[0]))
		})
	}
}

// A root's count goes up to Refs, and no further; no other count matters.
func TestP17_1UpToRefs(t *testing.T) {
	r := draw.Numbers(312)
	for _, refs := range []int{2, 3, 9, 300} {
		for height := 1; height <= 3; height++ {
			g := grove.Any(&r, height)
			s, _ := grove.Setting{Refs: refs, More: r.Below(3), Lasting: r.Below(5)}.Lay(&r, g)
			for k, c := range s.Counts { // all others are at Refs already
				if k+1 != g.Tree.Root {
					s.Counts[k] = refs * min(c, 1)
				}
			}
			v := vaultOf(t, s)
			for c := 2; c <= refs; c++ {
				y, e := clones(t, v, g.Tree)
				equal(t, "Clone", fmt.Sprint(y, e), fmt.Sprint(g.Tree, api.OK))
				equal(t, "the root's count", v.Count(g.Tree.Root), c)
			}
			refused(t, v, g.Tree)
			drops(t, v, g.Tree)
			_, e := clones(t, v, g.Tree)
			equal(t, "Clone behind a Drop", e, 0)
			refused(t, v, g.Tree)
		}
	}
}

// refused is a Clone, twice, that must be answered ErrRefs, and change nothing.
func refused(t *testing.T, v *vault.Vault, x api.Tree) {
	t.Helper()
	unchanged(t, v, func() {
		for range 2 {
			y, e := fork.Clone(v, x)
			equal(t, "Clone beyond Refs", fmt.Sprint(y, e), fmt.Sprint(empty, api.Errno(errRefs)))
		}
	})
}

// At the greatest Refs that there can be.
func TestP17_1GreatestRefs(t *testing.T) {
	v := lay(t, maxRefs, 1, []int{maxRefs - 1, 1}, V("abc", chunk, 2), B(chunk, 0))
	x := tree(1, 1, 3)
	_, e := clones(t, v, x)
	equal(t, "Clone", e, 0)
	refused(t, v, x)
	equal(t, "Freed", freed(t, v, x), 0)
	for range maxRefs {
		equal(t, "Drop", fork.Drop(v, x), 0)
	}
	equalLists(t, "the counts", v.Counts(), []int{0, 0})
	equalLists(t, "the states", states(v), []int{pending, pending})
}

// Marks that were made ahead are good behind a Clone, whether it is done or refused, and
// behind a Drop; none that was made ahead of a Settle is.
func TestP17_1Marks(t *testing.T) {
	t.Parallel()
	r, met := draw.Numbers(313), map[api.Errno]int{}
	for round := range 40 {
		w := plant(t, &r, grove.Any(&r, 1+round%3), 2+r.Below(2), 60, r.Below(5))
		var marks []int
		var stores []*grove.Store
		for k := range 14 {
			marks, stores = append(marks, w.v.Mark()), append(stores, grove.StoreFrom(w.v))
			switch at := r.Below(max(len(w.trees), 1)); {
			case len(w.trees) == 0:
				w.sow(t, &r, 0)
			case r.Below(4) == 0:
				w.drop(t, &r, at)
			case r.Below(3) == 0:
				w.put(t, &r, at)
			default:
				met[w.clone(t, &r, at)]++
			}
			if k == round/4 {
				w.v.Settle()
				for _, mark := range marks {
					equal(t, "Undo of what was settled", mark < w.v.Mark() && w.v.Undo(mark), false)
				}
				marks, stores = nil, nil
			}
		}
		for k := len(marks) - 1; k >= 0; k-- {
			equal(t, "Undo", w.v.Undo(marks[k]), true)
			equal(t, "Mark", w.v.Mark(), marks[k])
			equal(t, "a page that is not as it was", stores[k].Differs(w.v), 0)
		}
	}
	equal(t, "some were done, others not", met[0] > 50 && met[errRefs] > 50, true)
}

// Trees of each height that there can be, in vaults of up to 65536 pages.
func TestEveryHeight(t *testing.T) {
	t.Parallel()
	r := draw.Numbers(314)
	for h := 1; h <= grove.Highest; h++ {
		g := grove.Grow(&r, grove.Pairs(&r, grove.Fewest(h), 20000), grove.Few)
		equal(t, "Height", g.Tree.Height, h)
		s, _ := grove.Setting{Refs: 2, More: 3, Lasting: r.Below(5)}.Lay(&r, g)
		v := vaultOf(t, s)
		x, e := clones(t, v, g.Tree)
		equal(t, "Clone", fmt.Sprint(x, e), fmt.Sprint(g.Tree, api.OK))
		_, e = clones(t, v, g.Tree)
		equal(t, "Clone beyond Refs", e, errRefs)
		var pages []int
		for k, p := range g.Pages {
			if p.Kind != 0 {
				pages = append(pages, k+1)
			}
		}
		equalLists(t, "Reach", reach(t, v, x), pages)
		equalLists(t, "Counts of both", counts(t, v, x, x), v.Counts())
		equalLists(t, "Counts", counts(t, v, x), s.Counts)
		equal(t, "Freed", freed(t, v, x), 0)
		equal(t, "what a Drop gives back", len(drops(t, v, g.Tree)), 0)
		equal(t, "Check", walk.Check(v, x), 0)
		equal(t, "Freed", freed(t, v, x), len(pages))
		equalLists(t, "what the last Drop gives back", drops(t, v, x), pages)
		equal(t, "pages with a count", v.Tally(fresh)+v.Tally(held), 0)
		v.Settle()
		equal(t, "Free", v.Tally(free), v.Len())
	}
}

// Trees that share their root, some pages, only pages of values, or no page; and each
// count and each state behind each Drop, where all of it is Fresh, and where all lasts.
func TestP17_2WhatIsShared(t *testing.T) {
	two := []api.Page{V("abcd", chunk+1, 3), L("mnop"), B(chunk, 4), B(1, 0), N(1, 2), N(7, 2), V("aefg", chunk+1, 3), V("b", inline+1, 9), B(inline+1, 0)}
	s, x, u := tree(5, 2, 8), tree(6, 2, 8), tree(8, 1, 1)
	for _, c := range []struct {
		what   string
		trees  []api.Tree
		counts []int
		then   []int // the counts behind dropping the first of them
	}{
		{"it stands alone", []api.Tree{s}, []int{1, 1, 1, 1, 1, 0, 0, 0, 0}, []int{0, 0, 0, 0, 0, 0, 0, 0, 0}},
		{"the root", []api.Tree{s, s}, []int{1, 1, 1, 1, 2, 0, 0, 0, 0}, []int{1, 1, 1, 1, 1, 0, 0, 0, 0}},
		{"some pages, one of them a value's", []api.Tree{s, x}, []int{1, 2, 2, 1, 1, 1, 1, 0, 0}, []int{0, 1, 1, 1, 0, 1, 1, 0, 0}},
		{"the same, the other way round", []api.Tree{x, s}, []int{1, 2, 2, 1, 1, 1, 1, 0, 0}, []int{1, 1, 1, 1, 1, 0, 0, 0, 0}},
		{"no page", []api.Tree{s, u}, []int{1, 1, 1, 1, 1, 0, 0, 1, 1}, []int{0, 0, 0, 0, 0, 0, 0, 1, 1}},
		{"no page, the other way round", []api.Tree{u, s}, []int{1, 1, 1, 1, 1, 0, 0, 1, 1}, []int{1, 1, 1, 1, 1, 0, 0, 0, 0}},
		{"a page of a value alone", []api.Tree{tree(1, 1, 4), tree(7, 1, 4)}, []int{1, 0, 2, 1, 0, 0, 1, 0, 0}, []int{0, 0, 1, 1, 0, 0, 1, 0, 0}},
		{"a root that is a page of another one", []api.Tree{s, tree(1, 1, 4)}, []int{2, 1, 1, 1, 1, 0, 0, 0, 0}, []int{1, 0, 1, 1, 0, 0, 0, 0, 0}},
		{"the same, the other way round", []api.Tree{tree(1, 1, 4), s}, []int{2, 1, 1, 1, 1, 0, 0, 0, 0}, []int{1, 1, 1, 1, 1, 0, 0, 0, 0}},
		{"all three", []api.Tree{s, x, u}, []int{1, 2, 2, 1, 1, 1, 1, 1, 1}, []int{0, 1, 1, 1, 0, 1, 1, 1, 1}},
	} {
		for lasts := range 2 {
			v := lay(t, 3, lasts, c.counts, two...)
			equalLists(t, c.what, counts(t, v, c.trees...), c.counts)
			tells(t, v, c.trees...)
			drops(t, v, c.trees[0], c.trees[1:]...)
			equalLists(t, c.what+": the counts", v.Counts(), c.then)
			for k, state := range states(v) {
				want := free
				switch {
				case c.then[k] > 0:
					want = fresh + lasts
				case c.counts[k] > 0:
					want = free + lasts
				}
				equal(t, fmt.Sprintf("%s: the state of page %d", c.what, k+1), state, want)
			}
			v.Settle()
			for k, state := range states(v) {
				equal(t, c.what+": the state behind a Settle", state, free+(held-free)*min(c.then[k], 1))
			}
			for _, y := range c.trees[1:] {
				drops(t, v, y)
			}
			equal(t, c.what+": what is left", v.Tally(fresh)+v.Tally(held), 0)
			v.Settle()
			equal(t, c.what+": Free", v.Tally(free), v.Len())
		}
	}
}

// Pages that last and pages that do not, in one tree; and counts that are greater than
// what the trees lead to.
func TestP17_2Settings(t *testing.T) {
	t.Parallel()
	r, met := draw.Numbers(315), map[string]int{}
	for round := range 400 {
		g := grove.Any(&r, 1+round%4)
		c := grove.Settings(&r)
		c.More = r.Below(3) // neither Clone nor Drop needs a free page
		s, trees := c.Lay(&r, g)
		v := vaultOf(t, s)
		tells(t, v, trees...)
		if r.Below(2) == 0 {
			y, e := clones(t, v, g.Tree)
			if met[fmt.Sprintf("clone %d", e)]++; e == 0 {
				trees = append(trees, y)
			}
		}
		for len(trees) > 0 {
			gone := drops(t, v, trees[0], trees[1:]...)
			trees = trees[1:]
			met[fmt.Sprintf("%d gives back %t", len(trees), len(gone) > 0)]++
			met[fmt.Sprintf("all of it %t", len(gone) == len(reach(t, vaultOf(t, s), g.Tree)))]++
			if r.Below(3) == 0 {
				v.Settle()
			}
			tells(t, v, trees...)
		}
	}
	for _, what := range []string{"clone 0", "clone 13", "0 gives back true", "0 gives back false", "1 gives back false", "2 gives back false", "all of it true", "all of it false"} {
		if met[what] < 10 {
			t.Errorf("%q was met %d times", what, met[what])
		}
	}
}

// Neither needs a free page.
func TestP17NoRoom(t *testing.T) {
	r := draw.Numbers(316)
	for round := range 60 {
		g := grove.Any(&r, 1+round%3)
		s, _ := grove.Setting{Refs: 2, Lasting: r.Below(5)}.Lay(&r, g)
		s.Leave(&r, 0)
		v := vaultOf(t, s)
		equal(t, "Free", v.Tally(free), 0)
		x, e := clones(t, v, g.Tree)
		equal(t, "Clone", e, 0)
		tells(t, v, x, g.Tree)
		drops(t, v, x, g.Tree)
		gone := drops(t, v, g.Tree)
		equalLists(t, "what is given back", gone, modelOnly(s, g.Tree))
		equal(t, "of all", slices.Max(gone) <= v.Len(), true)
	}
}
