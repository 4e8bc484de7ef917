package fork_test

import (
	"fmt"
	"slices"
	"testing"

	"coppice/api"
	"coppice/draw"
	"coppice/fork"
	"coppice/grove"
)

// Three trees, the first two of which share pages, and one with values of several pages;
// page 12 is led to by none of them, page 13 is free.
func threeTrees() ([]int, []api.Page, []api.Tree) {
	pages := []api.Page{
		L("abcd"), V("mnop", 2*chunk+1, 6), N(1, 2), N(5, 2), L("efgh"), B(chunk, 7), B(chunk, 8), B(1, 0),
		V("x", maxValue, 10), B(chunk, 11), B(chunk, 0), B(5, 0), {},
	}
	for range 6 { // page 11 leads on to these
		pages = append(pages, B(chunk, len(pages)+2))
	}
	pages[len(pages)-1].Next = 0
	pages[10].Next = 14
	return []int{1, 2, 1, 1, 1, 1, 1, 1, 1, 1, 1, 1, 0, 1, 1, 1, 1, 1, 1}, pages, []api.Tree{tree(3, 2, 8), tree(4, 2, 8), tree(9, 1, 1)}
}

// What is told of trees by hand, in each order in which they can be named.
func TestP17_3ByHand(t *testing.T) {
	given, pages, l := threeTrees()
	v := lay(t, 2, 1, given, pages...)
	stand(t, v, l...)
	a, b, c := l[0], l[1], l[2]
	last := []int{1, 1, 1, 1, 1, 1}
	zero := []int{0, 0, 0, 0, 0, 0}
	for _, x := range []struct {
		l    []api.Tree
		want []int
	}{
		{nil, append([]int{0, 0, 0, 0, 0, 0, 0, 0, 0, 0, 0, 0, 0}, zero...)},
		{[]api.Tree{empty}, append([]int{0, 0, 0, 0, 0, 0, 0, 0, 0, 0, 0, 0, 0}, zero...)},
		{[]api.Tree{a}, append([]int{1, 1, 1, 0, 0, 1, 1, 1, 0, 0, 0, 0, 0}, zero...)},
		{[]api.Tree{b}, append([]int{0, 1, 0, 1, 1, 1, 1, 1, 0, 0, 0, 0, 0}, zero...)},
		{[]api.Tree{c}, append([]int{0, 0, 0, 0, 0, 0, 0, 0, 1, 1, 1, 0, 0}, last...)},
		{[]api.Tree{a, b}, append([]int{1, 2, 1, 1, 1, 1, 1, 1, 0, 0, 0, 0, 0}, zero...)},
		{[]api.Tree{a, c}, append([]int{1, 1, 1, 0, 0, 1, 1, 1, 1, 1, 1, 0, 0}, last...)},
		{[]api.Tree{a, b, c}, append([]int{1, 2, 1, 1, 1, 1, 1, 1, 1, 1, 1, 0, 0}, last...)},
		{[]api.Tree{a, a}, append([]int{1, 1, 2, 0, 0, 1, 1, 1, 0, 0, 0, 0, 0}, zero...)},
		{[]api.Tree{a, b, a, a, b}, append([]int{1, 2, 3, 2, 1, 1, 1, 1, 0, 0, 0, 0, 0}, zero...)}, // above Refs: it is told what they would be
		{[]api.Tree{c, empty, c, c, c}, append([]int{0, 0, 0, 0, 0, 0, 0, 0, 4, 1, 1, 0, 0}, last...)},
		{[]api.Tree{a, tree(2, 1, 4)}, append([]int{1, 2, 1, 0, 0, 1, 1, 1, 0, 0, 0, 0, 0}, zero...)}, // a page of one is the root of the other
	} {
		unchanged(t, v, func() {
			for _, order := range orders(x.l) {
				equalLists(t, fmt.Sprintf("Counts(%v)", order), counts(t, v, order...), x.want)
			}
		})
	}
	fromC := []int{9, 10, 11, 14, 15, 16, 17, 18, 19}
	for _, x := range []struct {
		t      api.Tree
		others []api.Tree
		want   []int
	}{
		{empty, nil, nil}, {empty, []api.Tree{a, b}, nil},
		{a, nil, []int{1, 2, 3, 6, 7, 8}}, {b, nil, []int{2, 4, 5, 6, 7, 8}}, {c, nil, fromC},
		{a, []api.Tree{empty}, []int{1, 2, 3, 6, 7, 8}},
		{a, []api.Tree{b}, []int{1, 3}}, {b, []api.Tree{a}, []int{4, 5}}, {a, []api.Tree{c}, []int{1, 2, 3, 6, 7, 8}},
		{a, []api.Tree{b, c}, []int{1, 3}}, {a, []api.Tree{b, b, empty, b}, []int{1, 3}},
		{a, []api.Tree{a}, nil}, {a, []api.Tree{c, a, b}, nil}, {c, []api.Tree{a, b, a}, fromC}, {c, []api.Tree{c, c}, nil},
		{a, []api.Tree{tree(2, 1, 4)}, []int{1, 3}}, {tree(2, 1, 4), []api.Tree{a}, nil}, {tree(2, 1, 4), nil, []int{2, 6, 7, 8}},
		{a, []api.Tree{tree(1, 1, 4), tree(2, 1, 4)}, []int{3}},
	} {
		unchanged(t, v, func() {
			for _, order := range orders(x.others) {
				equalLists(t, fmt.Sprintf("Only(%v, %v)", x.t, order), only(t, v, x.t, order...), x.want)
			}
			if len(x.others) == 0 {
				equalLists(t, fmt.Sprintf("Reach(%v)", x.t), reach(t, v, x.t), x.want)
			}
		})
	}
	for k, want := range []int{2, 2, 9} {
		equal(t, fmt.Sprintf("Freed(%v)", l[k]), freed(t, v, l[k]), want)
	}
	tells(t, v, a, b, c, empty, a)
}

// orders is a list of trees in each order, or in some.
func orders(l []api.Tree) [][]api.Tree {
	back := slices.Clone(l)
	slices.Reverse(back)
	all := [][]api.Tree{l, back}
	for k := range l {
		all = append(all, slices.Concat(l[k:], l[:k]), slices.Concat(back[k:], back[:k]))
	}
	return all
}

// What a page is led to by is what counts, not what its count is.
func TestP17_3WhateverTheCounts(t *testing.T) {
	given, pages, l := threeTrees()
	for _, more := range []int{0, 1, 5} {
		counted := slices.Clone(given)
		for k := range counted {
			if counted[k] > 0 {
				counted[k] += more
			}
		}
		v := lay(t, 9, 1, counted, pages...)
		unchanged(t, v, func() {
			equalLists(t, "Counts", counts(t, v, l...)[:13], []int{1, 2, 1, 1, 1, 1, 1, 1, 1, 1, 1, 0, 0})
			equalLists(t, "Reach", reach(t, v, l[0]), []int{1, 2, 3, 6, 7, 8})
			equalLists(t, "Only", only(t, v, l[0], l[1]), []int{1, 3})
			equal(t, "Freed", freed(t, v, l[0]), map[bool]int{true: 2}[more == 0])
		})
	}
}

// A page whose count is greater keeps all that is beneath it, from there on.
func TestP17_4FreedStopsThere(t *testing.T) {
	given, pages, l := threeTrees()
	for _, c := range []struct {
		more []int // pages that are led to from elsewhere too
		want [3]int
	}{
		{nil, [3]int{2, 2, 9}}, {[]int{3}, [3]int{0, 2, 9}}, {[]int{1}, [3]int{1, 2, 9}}, {[]int{1, 3}, [3]int{0, 2, 9}}, {[]int{5}, [3]int{2, 1, 9}},
		{[]int{9}, [3]int{2, 2, 0}}, {[]int{10}, [3]int{2, 2, 1}}, {[]int{11}, [3]int{2, 2, 2}}, {[]int{19}, [3]int{2, 2, 8}}, {[]int{11, 16}, [3]int{2, 2, 2}},
		{[]int{2, 6, 7, 8, 12}, [3]int{2, 2, 9}},
	} {
		counted := slices.Clone(given)
		for _, n := range c.more {
			counted[n-1]++
		}
		for lasts := range 2 {
			for k, x := range l {
				v := lay(t, 3, lasts, counted, pages...)
				equal(t, fmt.Sprintf("Freed(%v), %v", x, c.more), freed(t, v, x), c.want[k])
				gone := drops(t, v, x)
				equal(t, "what Drop gives back", len(gone), c.want[k])
			}
		}
	}
}

// A tree behind Drop of another one with which it shared pages: these are given back by
// it then.
func TestP17_4FreedBehindDrop(t *testing.T) {
	given, pages, l := threeTrees()
	v := lay(t, 2, 0, given, pages...)
	drops(t, v, l[0], l[1:]...)
	equal(t, "Freed", freed(t, v, l[1]), 6)
	v.Settle()
	equal(t, "Freed behind a Settle", freed(t, v, l[1]), 6)
	x, e := clones(t, v, l[1])
	equal(t, "Clone", e, 0)
	equal(t, "Freed, cloned", freed(t, v, l[1]), 0)
	drops(t, v, x, l[1], l[2])
	equalLists(t, "what is given back", drops(t, v, l[1], l[2]), []int{2, 4, 5, 6, 7, 8})
}

// Trees of all kinds, alone and beside others, in settings of all kinds.
func TestP17_4Woods(t *testing.T) {
	t.Parallel()
	r, met := draw.Numbers(321), map[string]int{}
	for round := range 150 {
		w := someWood(t, &r, 1+round%4)
		tells(t, w.v, w.trees...)
		tells(t, w.v, append(slices.Clone(w.trees), w.trees...)...)
		all := counts(t, w.v, w.trees...)
		for _, order := range orders(w.trees) {
			equalLists(t, "in any order", counts(t, w.v, order...), all)
		}
		if len(w.trees) > 1 {
			mine, theirs := reach(t, w.v, w.trees[0]), only(t, w.v, w.trees[0], w.trees[1])
			met[shared(w.trees[0], w.trees[1], mine, theirs)]++
		}
		unchanged(t, w.v, func() {
			fork.Counts(w.v, w.trees...)
			for k, x := range w.trees {
				fork.Reach(w.v, x)
				fork.Only(w.v, x, w.without(k)...)
				fork.Freed(w.v, x)
			}
		})
	}
	for _, what := range []string{"the root", "some pages", "no page"} {
		if met[what] < 10 {
			t.Errorf("%q was shared %d times", what, met[what])
		}
	}
}

// shared is what two trees share.
func shared(x, y api.Tree, all, own []int) string {
	switch {
	case x.Root == y.Root:
		return "the root"
	case len(all) == len(own):
		return "no page"
	}
	return "some pages"
}

// The list of pages rises, and none is there twice.
func TestP17_4Rising(t *testing.T) {
	t.Parallel()
	r := draw.Numbers(322)
	for round := range 80 {
		w := someWood(t, &r, 1+round%3)
		for k, x := range w.trees {
			for _, l := range [][]int{reach(t, w.v, x), only(t, w.v, x, w.without(k)...), only(t, w.v, x)} {
				for at := range l {
					if l[at] < 1 || l[at] > w.v.Len() || at > 0 && l[at] <= l[at-1] {
						t.Fatalf("pages %v, of %d", l, w.v.Len())
					}
				}
			}
		}
	}
}

// Trees that are named very often.
func TestP17_3NamedOften(t *testing.T) {
	given, pages, l := threeTrees()
	v := lay(t, 2, 1, given, pages...)
	const often = 100000
	many := slices.Repeat([]api.Tree{l[0], l[1], empty}, often)
	unchanged(t, v, func() {
		want := counts(t, v, l[0], l[1])
		want[l[0].Root-1], want[l[1].Root-1] = often, often
		equalLists(t, "Counts", counts(t, v, many...), want)
		equalLists(t, "Only", only(t, v, l[0], many...), nil)
		equalLists(t, "Only of another one", only(t, v, l[2], many...), reach(t, v, l[2]))
	})
}

// A vault as great as can be, with one small tree at its ends: each page has its count.
func TestP17_3GreatVault(t *testing.T) {
	s := grove.StoreOf(2, []api.Page{V("ab", 2*chunk, 65536)}, 65535)
	s.On[65535], s.Counts[65535], s.Lasts[65535] = B(chunk, 2), 1, 1
	s.On[1], s.Counts[1], s.Lasts[1] = B(chunk, 0), 1, 1
	v := vaultOf(t, s)
	x := tree(1, 1, 2)
	want := make([]int, 65536)
	equalLists(t, "Counts of none", counts(t, v), want)
	want[0], want[1], want[65535] = 1, 1, 1
	equalLists(t, "Counts", counts(t, v, x), want)
	equalLists(t, "Reach", reach(t, v, x), []int{1, 2, 65536})
	equal(t, "Freed", freed(t, v, x), 3)
	drops(t, v, x)
	equal(t, "the states", fmt.Sprint(v.State(1), v.State(2), v.State(65536)), fmt.Sprint(free, pending, pending))
}
