package walk_test

import (
	"bytes"
	"fmt"
	"slices"
	"testing"
	"time"

	"coppice/api"
	"coppice/draw"
	"coppice/grove"
	"coppice/span"
	"coppice/vault"
	"coppice/walk"
)

// Get, List, Scan and Back agree, as do Ceil, Floor and Path with them.
func TestP14_6OneTree(t *testing.T) {
	r := draw.Numbers(154)
	for _, g := range grove.Trees(&r, 4) {
		v := heldPages(t, g.Pages...)
		l, e := walk.List(v, g.Tree, all())
		equal(t, "List", e, 0)
		equal(t, "how many", len(l), g.Tree.Items)
		lists(t, v, g.Tree, all(), l)
		for k, x := range l {
			gets(t, v, g.Tree, x.Key, x.Value, true, 0)
			ceils(t, v, g.Tree, x.Key, x)
			floors(t, v, g.Tree, x.Key, x)
			if k > 0 {
				equal(t, "rising", bytes.Compare(l[k-1].Key, x.Key), -1)
			}
			way, _ := walk.Path(v, g.Tree, x.Key)
			equal(t, "how long the way is", len(way), g.Tree.Height)
			p, _ := v.Read(way[len(way)-1])
			equal(t, "the leaf of a key", slices.ContainsFunc(p.Items, func(i api.Item) bool { return bytes.Equal(i.Key, x.Key) }), true)
		}
		for _, row := range g.Rows(&r, 50) {
			betweenNeighbours(t, v, g.Tree, row, l)
		}
	}
}

// betweenNeighbours: between what Floor and Ceil tell of a row no key lies, but the row.
func betweenNeighbours(t *testing.T, v *vault.Vault, tree api.Tree, row []byte, pairs []api.Pair) {
	t.Helper()
	low, isLow, _ := walk.Floor(v, tree, row)
	high, isHigh, _ := walk.Ceil(v, tree, row)
	equal(t, "Floor is not above", isLow && bytes.Compare(low.Key, row) > 0, false)
	equal(t, "Ceil is not below", isHigh && bytes.Compare(high.Key, row) < 0, false)
	for _, x := range pairs {
		above := !isLow || bytes.Compare(x.Key, low.Key) > 0
		below := !isHigh || bytes.Compare(x.Key, high.Key) < 0
		if above && below {
			t.Fatalf("%x lies between Floor and Ceil of %x", x.Key, row)
		}
	}
}

// A range that is split at a key: what List tells of the one part, and of the other one
// behind it.
func TestP14_6Split(t *testing.T) {
	r := draw.Numbers(155)
	for _, g := range grove.Trees(&r, 3) {
		v, rows := heldPages(t, g.Pages...), g.Rows(&r, 60)
		some := func() []byte { return rows[r.Below(len(rows))] }
		everything, _ := walk.List(v, g.Tree, all())
		for range 100 {
			rg := api.Range{Lo: some(), Hi: some(), Open: r.Below(3) == 0}
			whole, _ := walk.List(v, g.Tree, rg)
			low, high := span.Split(rg, some())
			a, _ := walk.List(v, g.Tree, low)
			b, _ := walk.List(v, g.Tree, high)
			equalPairs(t, "the parts of "+show(rg), slices.Concat(a, b), whole)
			equalPairs(t, "those that lie there", slices.DeleteFunc(slices.Clone(everything), func(x api.Pair) bool { return !span.Has(rg, x.Key) }), whole)
			equalPairs(t, "the other way round", turned(told(walk.Back(v, g.Tree, rg))), whole)
		}
	}
}

// Trees of the same pairs on other pages, of other heights, tell the same.
func TestP14_6ThePairsAlone(t *testing.T) {
	r, heights := draw.Numbers(156), map[string]int{}
	for range 30 {
		pairs := grove.Pairs(&r, 1+r.Below(200), 6000)
		a := grove.Grow(&r, pairs, grove.Few)
		v := heldPages(t, a.Pages...)
		for _, take := range []grove.Share{grove.Few, grove.Many, grove.Some(&r)} {
			b := grove.Grow(&r, pairs, take)
			w := freshPages(t, b.Pages...)
			heights[fmt.Sprint(b.Tree.Height-a.Tree.Height)]++
			for _, row := range a.Rows(&r, 20) {
				x, is, e := walk.Get(v, a.Tree, row)
				gets(t, w, b.Tree, row, x, is, e)
				rg := api.Range{Lo: row, Hi: pairs[r.Below(len(pairs))].Key}
				l, _ := walk.List(v, a.Tree, rg)
				lists(t, w, b.Tree, rg, l)
			}
		}
	}
	equal(t, "trees of other heights", len(heights) > 1, true)
}

// Two trees in one vault, sharing pages or not, tell each its own.
func TestP14_6TwoTrees(t *testing.T) {
	counts := []int{2, 1, 1, 1, 1}
	v, e := vault.Load(9, counts, []api.Numbered{
		{No: 1, Page: leaf("aceg")}, {No: 2, Page: leaf("mprtv")}, {No: 3, Page: index(1, "m", 1, 2)},
		{No: 4, Page: leaf("nosu")}, {No: 5, Page: index(1, "n", 1, 4)},
	})
	equal(t, "Load", e, 0)
	one, other := api.Tree{Root: 3, Height: 2, Items: 9}, api.Tree{Root: 5, Height: 2, Items: 8}
	for range 2 {
		equal(t, "the one", words(told(walk.Scan(v, one, from("f")))), "g gg, m mm, p pp, r rr, t tt, v vv")
		equal(t, "the other", words(told(walk.Scan(v, other, from("f")))), "g gg, n nn, o oo, s ss, u uu")
		leads(t, v, one, []byte("m"), 3, 2)
		leads(t, v, other, []byte("m"), 5, 1)
		checks(t, v, one, 0)
		checks(t, v, other, 0)
	}
}

// asksAll asks all calls of a tree, whether it stands or not; with an error there is no
// other answer.
func asksAll(t *testing.T, v *vault.Vault, tree api.Tree, rows [][]byte) {
	t.Helper()
	walk.Check(v, tree)
	for k, row := range rows {
		b, ok, e := walk.Get(v, tree, row)
		x, high, eHigh := walk.Ceil(v, tree, row)
		y, low, eLow := walk.Floor(v, tree, row)
		way, eWay := walk.Path(v, tree, row)
		rg := api.Range{Lo: row, Hi: rows[(k*7+3)%len(rows)], Open: k%3 == 0}
		l, eList := walk.List(v, tree, rg)
		if e != 0 && (b != nil || ok) || eHigh != 0 && (high || x.Key != nil || x.Value != nil) || eLow != 0 && (low || y.Key != nil || y.Value != nil) || eWay != 0 && way != nil || eList != 0 && l != nil {
			t.Errorf("an answer beside an error of %v: %x", tree, row)
		}
		told(walk.Scan(v, tree, rg))
		told(walk.Back(v, tree, rg))
	}
}

// All calls end, and none panics or changes the vault, of trees that do not stand.
func TestR1AnyPages(t *testing.T) {
	r := draw.Numbers(157)
	for range 3 {
		for _, g := range grove.Trees(&r, 3) {
			for range 12 {
				pages, tree := g.Pages, g.Tree
				for range 1 + r.Below(4) {
					pages = spoiled(&r, pages, &tree)
				}
				v := heldPages(t, pages...)
				unchanged(t, v, func() { asksAll(t, v, tree, g.Rows(&r, 2)) })
			}
		}
	}
}

// Trees with numbers that cannot be, and pages that lead in rings.
func TestR1Rings(t *testing.T) {
	pages := []api.Page{index(1, "m", 1, 1), index(2, "m", 3, 2), index(1, "m", 2, 3), leafOf(long("a", maxValue, 5), long("m", 3000, 6)), part(480, 5), part(480, 5), index(11, "hm", 7, 7, 1), leaf("abcd"), index(1, "m", 8, 8)}
	v := heldPages(t, append(pages, api.Page{})...)
	rows := [][]byte{nil, []byte("a"), []byte("m"), []byte("z"), make([]byte, 30)}
	unchanged(t, v, func() {
		for _, root := range []int{lowest, -1, 0, 1, 2, 3, 4, 5, 6, 7, 8, 9, 10, 11, 65536, 65537, greatest} {
			for _, height := range []int{lowest, lowest + 1, -1, 0, 1, 2, 3, 11, 12, 13, 1 << 16, 1<<32 + 1, greatest - 1, greatest} {
				for _, items := range []int{lowest, 0, 1, 8, greatest} {
					asksAll(t, v, api.Tree{Root: root, Height: height, Items: items}, rows)
				}
			}
		}
	})
}

// Where one page is led to again and again, on each of many levels, the ways down are
// more than could ever be gone.
func TestR1ManyWays(t *testing.T) {
	var pages []api.Page
	for level := 11; level > 0; level-- {
		n := len(pages) + 2
		pages = append(pages, index(level, "bcdefgh", n, n, n, n, n, n, n, n))
	}
	pages = append(pages, leaf("ABCDEFGH"))
	v := heldPages(t, pages...)
	done := make(chan int)
	go func() {
		asksAll(t, v, api.Tree{Root: 1, Height: 12, Items: 1 << 36}, [][]byte{nil, []byte("a"), []byte("d"), []byte("d\x00"), []byte("z"), make([]byte, 30)})
		close(done)
	}()
	select {
	case <-done:
	case <-time.After(20 * time.Second):
		t.Fatal("it does not end")
	}
	checks(t, v, api.Tree{Root: 1, Height: 12, Items: 1 << 36}, errPage)
}

// Where there is no vault, no page is there.
func TestR1NoVault(t *testing.T) {
	rows := [][]byte{nil, []byte("a"), make([]byte, 30)}
	for _, tree := range []api.Tree{empty, {Root: 1, Height: 1, Items: 1}, {Root: 1, Height: 2, Items: 8}, {Root: 1}, {Height: 1}, {Items: 1}} {
		asksAll(t, nil, tree, rows)
	}
	answers(t, nil, &grove.Grown{}, []byte("a"))
	lists(t, nil, empty, all(), nil)
	checks(t, nil, empty, 0)
	checks(t, nil, api.Tree{Root: 1, Height: 1, Items: 1}, errPage)
	checks(t, nil, api.Tree{Root: 1, Height: 13, Items: 1}, errForm)
}

// What is answered hangs on what stands there alone: not on what was asked before, nor
// on how the pages came there, nor on how often they are led to.
func TestR5WhatStandsThere(t *testing.T) {
	r := draw.Numbers(158)
	for _, g := range grove.Trees(&r, 3) {
		counts, l := make([]int, len(g.Pages)), []api.Numbered(nil)
		for k, p := range g.Pages {
			if p.Kind != 0 {
				counts[k] = 1 + r.Below(3)
				l = append(l, api.Numbered{No: k + 1, Page: p})
			}
		}
		v, e := vault.Load(3, counts, l)
		equal(t, "Load", e, 0)
		w := freshPages(t, g.Pages...)
		w.Settle()
		for _, v := range []*vault.Vault{v, w, heldPages(t, g.Pages...), freshPages(t, g.Pages...)} {
			for range 2 {
				for _, row := range g.Rows(&r, 10) {
					answers(t, v, g, row)
				}
				lists(t, v, g.Tree, all(), g.Pairs)
				checks(t, v, g.Tree, 0)
			}
		}
	}
}
