package walk_test

import (
	"bytes"
	"fmt"
	"testing"

	"coppice/api"
	"coppice/draw"
	"coppice/grove"
	"coppice/vault"
	"coppice/walk"
)

// The chapter's table, row by row.
func TestExamples(t *testing.T) {
	v, tree := two(t)
	gets(t, v, tree, []byte("c"), []byte("cc"), true, 0)
	gets(t, v, tree, []byte("d"), nil, false, 0)
	gets(t, v, tree, nil, nil, false, errKey)
	gets(t, v, tree, make([]byte, 25), nil, false, errKey)
	l, e := walk.List(v, tree, to("e", "p"))
	equal(t, "List", words(l), "e ee, g gg, m mm")
	equal(t, "List", e, 0)
	for k, x := range walk.Scan(v, tree, to("e", "p")) {
		equal(t, "Scan", string(k)+" "+string(x), "e ee")
		break
	}
	equal(t, "Back", words(told(walk.Back(v, tree, all()))), "v vv, t tt, r rr, p pp, m mm, g gg, e ee, c cc, a aa")
	lists(t, v, tree, to("h", "l"), nil)
	lists(t, v, tree, to("p", "e"), nil)
	lists(t, v, empty, all(), nil)
	ceils(t, v, tree, []byte("h"), api.Pair{Key: []byte("m"), Value: []byte("mm")})
	ceils(t, v, tree, []byte("w"))
	ceils(t, v, tree, nil, api.Pair{Key: []byte("a"), Value: []byte("aa")})
	floors(t, v, tree, []byte("h"), api.Pair{Key: []byte("g"), Value: []byte("gg")})
	floors(t, v, tree, nil)
	leads(t, v, tree, []byte("h"), 3, 1)
	leads(t, v, tree, []byte("m"), 3, 2)
	leads(t, v, empty, []byte("m"))
	checks(t, v, tree, 0)
	checks(t, v, api.Tree{Root: 3, Height: 2, Items: 8}, errMany)
	checks(t, v, api.Tree{Root: 3, Height: 1, Items: 9}, errPage)
	checks(t, v, api.Tree{Root: 1, Height: 1, Items: 4}, 0)
	checks(t, v, api.Tree{Items: 1}, errForm)
	checks(t, v, api.Tree{Root: 9, Height: 1, Items: 1}, errPage)
	checks(t, heldPages(t, leaf("acen"), leaf("mprtv"), index(1, "m", 1, 2)), tree, errOrder)
	checks(t, heldPages(t, leaf("ace"), leaf("mprtv"), index(1, "m", 1, 2)), tree, errForm)
	checks(t, heldPages(t, leaf("aceg"), leaf("mprtv"), index(1, "m", 1, 1)), tree, errPage)
}

// What is no key is asked of each tree: it has 1 to MaxKey bytes.
func TestP14_1NoKey(t *testing.T) {
	r := draw.Numbers(141)
	for _, g := range grove.Trees(&r, 3) {
		v := heldPages(t, g.Pages...)
		unchanged(t, v, func() {
			for _, key := range [][]byte{nil, {}, make([]byte, maxKey+1), make([]byte, maxKey+2), make([]byte, 256), make([]byte, 256+maxKey), make([]byte, 1<<16+3)} {
				gets(t, v, g.Tree, key, nil, false, errKey)
			}
			for n := 1; n <= maxKey; n++ {
				for _, x := range []byte{0, 'a', 0xff} {
					key := bytes.Repeat([]byte{x}, n)
					value, there := g.Get(key)
					gets(t, v, g.Tree, key, value, there, 0)
				}
			}
			for _, x := range g.Pairs { // a key that is there, with more bytes behind it
				gets(t, v, g.Tree, append(bytes.Clone(x.Key), make([]byte, maxKey)...), nil, false, errKey)
			}
		})
	}
}

// Values of each length that a page bounds, and on both sides of it.
func TestP14_1Values(t *testing.T) {
	r := draw.Numbers(142)
	sizes := []int{0, 1, 2, inline - 1, inline, inline + 1, inline + 2, 255, 256}
	for n := 1; n <= maxValue/chunk; n++ {
		sizes = append(sizes, n*chunk-1, n*chunk, min(n*chunk+1, maxValue))
	}
	var pairs []api.Pair
	for k, size := range sizes {
		pairs = append(pairs, api.Pair{Key: []byte{byte(2*k + 1)}, Value: r.Bytes(size)})
	}
	for _, take := range []grove.Share{grove.Few, grove.Many, grove.Some(&r)} {
		g := grove.Grow(&r, pairs, take)
		for _, v := range []*vault.Vault{heldPages(t, g.Pages...), freshPages(t, g.Pages...)} {
			unchanged(t, v, func() {
				for k := range 256 {
					answers(t, v, g, []byte{byte(k)})
				}
				lists(t, v, g.Tree, all(), pairs)
				checks(t, v, g.Tree, 0)
			})
		}
	}
}

// Keys that are there and keys that are not, at each height that a tree can have.
func TestEveryHeight(t *testing.T) {
	r := draw.Numbers(143)
	for h := 1; h <= grove.Highest; h++ {
		g := grove.Grow(&r, grove.Pairs(&r, grove.Fewest(h), 50000), grove.Few)
		equal(t, "Height", g.Tree.Height, h)
		v := heldPages(t, g.Pages...)
		mark, counts := v.Mark(), fmt.Sprint(v.Counts())
		rows := g.Rows(&r, 60)
		for _, row := range rows {
			answers(t, v, g, row)
		}
		for range 4 {
			rg := api.Range{Lo: rows[r.Below(len(rows))], Hi: rows[r.Below(len(rows))], Open: r.Below(3) == 0}
			lists(t, v, g.Tree, rg, g.List(rg))
		}
		lists(t, v, g.Tree, all(), g.Pairs)
		checks(t, v, g.Tree, 0)
		equal(t, "Mark", v.Mark(), mark)
		equal(t, "Counts", fmt.Sprint(v.Counts()), counts)
	}
}

// All rows at and beside all keys and separators, of trees of all kinds.
func TestP14_1P14_3P14_4Rows(t *testing.T) {
	r := draw.Numbers(144)
	for _, g := range grove.Trees(&r, 4) {
		for _, v := range []*vault.Vault{heldPages(t, g.Pages...), freshPages(t, g.Pages...)} {
			for _, row := range g.Rows(&r, 150) {
				answers(t, v, g, row)
			}
		}
	}
}

// The empty tree has nothing, in any vault.
func TestTheEmptyTree(t *testing.T) {
	r := draw.Numbers(145)
	for _, g := range grove.Trees(&r, 2) {
		v := heldPages(t, g.Pages...)
		unchanged(t, v, func() {
			for _, row := range g.Rows(&r, 20) {
				answers(t, v, &grove.Grown{}, row)
				lists(t, v, empty, api.Range{Lo: row, Open: true}, nil)
				lists(t, v, empty, api.Range{Hi: row}, nil)
			}
			checks(t, v, empty, 0)
		})
	}
}

// A row of any length has its neighbours and its way.
func TestP14_3P14_4LongRows(t *testing.T) {
	r := draw.Numbers(146)
	g := grove.Grow(&r, grove.Pairs(&r, 200, 5000), grove.Some(&r))
	v := heldPages(t, g.Pages...)
	for _, n := range []int{23, 24, 25, 26, 48, 255, 256, 257, 65535, 65536, 1 << 20} {
		for _, x := range []byte{0, 'a', 'm', 0xff} {
			answers(t, v, g, bytes.Repeat([]byte{x}, n))
			key := g.Pairs[r.Below(len(g.Pairs))].Key
			answers(t, v, g, append(bytes.Clone(key), bytes.Repeat([]byte{x}, n)...))
		}
	}
}

// spot is a spot of a level; its keys lie from lo on.
func spot(no int, lo string) grove.Spot { return grove.Spot{No: no, Lo: []byte(lo)} }

// A separator may stand where no key stands: between it and the keys beside it what is
// nearest may lie on either side.
func TestP14_3BesideSeparators(t *testing.T) {
	v := heldPages(t, leaf("2345"), leaf("6789"), leaf("bcde"), leaf("nopq"), leaf("uvwx"), leaf("ABCD"), leaf("FGHI"), leaf("QRST"),
		index(1, "6AE", 1, 2, 6, 7), index(1, "ajs", 8, 3, 4, 5), index(2, "M", 9, 10))
	g := &grove.Grown{Tree: api.Tree{Root: 11, Height: 3, Items: 32}, Levels: [][]grove.Spot{
		{spot(1, ""), spot(2, "6"), spot(6, "A"), spot(7, "E"), spot(8, "M"), spot(3, "a"), spot(4, "j"), spot(5, "s")},
		{spot(9, ""), spot(10, "M")},
		{spot(11, "")},
	}}
	for _, k := range []byte("23456789ABCDFGHIQRSTbcdenopquvwx") {
		g.Pairs = append(g.Pairs, api.Pair{Key: []byte{k}, Value: []byte{k, k}})
	}
	checks(t, v, g.Tree, 0)
	for x := range 256 {
		for _, row := range grove.Around([]byte{byte(x)}) {
			answers(t, v, g, row)
		}
	}
	floors(t, v, g.Tree, []byte("P"), api.Pair{Key: []byte("I"), Value: []byte("II")})
	ceils(t, v, g.Tree, []byte("J"), api.Pair{Key: []byte("Q"), Value: []byte("QQ")})
	leads(t, v, g.Tree, []byte("L"), 11, 9, 7)
	leads(t, v, g.Tree, []byte("M"), 11, 10, 8)
}
