package bulk_test

import (
	"bytes"
	"fmt"
	"slices"
	"testing"

	"coppice/api"
	"coppice/bulk"
	"coppice/draw"
	"coppice/fork"
	"coppice/grove"
)

// someRange is a range of any kind, about the keys of a tree.
func someRange(r *draw.Numbers, g *grove.Grown) api.Range {
	rows := g.Rows(r, 6)
	row := func() []byte {
		if r.Below(2) == 0 {
			return g.SomeKey(r)
		}
		return rows[r.Below(len(rows))]
	}
	x := api.Range{Lo: row(), Hi: row(), Open: r.Below(5) == 0}
	if r.Below(3) > 0 && bytes.Compare(x.Lo, x.Hi) > 0 {
		x.Lo, x.Hi = x.Hi, x.Lo
	}
	return x
}

// kind is a range of a kind, and how many keys of the tree lie there.
type kind struct {
	name string
	r    api.Range
	keys int
}

// kinds is ranges of each kind, about the keys of a tree that has some.
func kinds(g *grove.Grown) []kind {
	n := len(g.Pairs)
	key := func(at int) []byte { return g.Pairs[at].Key }
	above := func(at int) []byte { return append(bytes.Clone(key(at)), 0) } // nothing lies between
	far := bytes.Repeat([]byte{0xff}, 99)
	return []kind{
		{"empty", api.Range{}, 0},
		{"empty, at a key", api.Range{Lo: key(n / 2), Hi: key(n / 2)}, 0},
		{"empty, the ends turned", api.Range{Lo: above(n - 1), Hi: key(0)}, 0},
		{"none, below the first", api.Range{Hi: key(0)}, 0},
		{"none, above the last", api.Range{Lo: above(n - 1), Open: true}, 0},
		{"none, above the last, with an end", api.Range{Lo: above(n - 1), Hi: far}, 0},
		{"none, far above", api.Range{Lo: far, Open: true}, 0},
		{"none, between two", api.Range{Lo: above(n / 2), Hi: key(min(n-1, n/2+1))}, 0},
		{"all", api.Range{Open: true}, n},
		{"all, from the first on", api.Range{Lo: key(0), Open: true}, n},
		{"all, with an end", api.Range{Lo: key(0), Hi: above(n - 1)}, n},
		{"all, Hi does not matter", api.Range{Lo: key(0), Hi: key(0), Open: true}, n},
		{"all, with an end that is far", api.Range{Hi: far}, n},
		{"one, the first", api.Range{Lo: key(0), Hi: above(0)}, 1},
		{"one, the last", api.Range{Lo: key(n - 1), Open: true}, 1},
		{"one, in the middle", api.Range{Lo: key(n / 2), Hi: above(n / 2)}, 1},
		{"all but the last", api.Range{Hi: key(n - 1)}, n - 1},
		{"all but the first", api.Range{Lo: above(0), Open: true}, n - 1},
		{"the first half", api.Range{Hi: key(n / 2)}, n / 2},
		{"the second half", api.Range{Lo: key(n / 2), Open: true}, n - n/2},
		{"a middle part", api.Range{Lo: key(n / 3), Hi: key(2 * n / 3)}, 2*n/3 - n/3},
		{"a middle part, the ends are no keys", api.Range{Lo: above(n / 3), Hi: above(2 * n / 3)}, 2*n/3 - n/3},
	}
}

// By ranges of each kind, of trees of each height.
func TestP18_5Kinds(t *testing.T) {
	t.Parallel()
	r := draw.Numbers(421)
	for round := range 15 {
		g := grove.Any(&r, 1+round%3)
		s, trees := grove.Setting{Refs: 3, Clones: round % 2, More: 200, Lasting: round % 5}.Lay(&r, g)
		for _, k := range kinds(g) {
			x, n := trims(t, vaultOf(t, s), trees[0], k.r, trees[1:]...)
			equal(t, k.name, fmt.Sprint(x.n, n, x.e), fmt.Sprint(k.keys, k.keys, api.OK))
			equal(t, k.name+": nothing is left", x.tree == empty, k.keys == len(g.Pairs))
			equal(t, k.name+": the same tree", x.tree == trees[0], k.keys == 0)
			y, _ := trims(t, vaultOf(t, s), empty, k.r, trees...)
			equal(t, k.name+", of the empty tree", fmt.Sprint(y.tree, y.n, y.e), fmt.Sprint(empty, 0, api.OK))
		}
	}
}

// Of trees of all kinds, in all settings.
func TestP18_5AnyTree(t *testing.T) {
	t.Parallel()
	r, met := draw.Numbers(422), met{}
	for round := range 1500 {
		g := grove.Any(&r, 1+round%3)
		s, trees := grove.Settings(&r).Lay(&r, g)
		x, n := trims(t, vaultOf(t, s), trees[0], someRange(&r, g), trees[1:]...)
		met[fmt.Sprintf("height %d, error %d", g.Tree.Height, x.e)]++
		switch {
		case x.e != 0:
			met[fmt.Sprintf("error %d %s", x.e, where(x.at, n))]++
		case x.n == 0:
			met["no key lies there"]++
		case x.tree == empty:
			met["all keys lie there"]++
		case x.n > 8:
			met["many lie there"]++
		}
	}
	met.wants(t, 100, "height 1, error 0", "height 2, error 0", "height 3, error 0", "no key lies there", "many lie there")
	met.wants(t, 5, "all keys lie there", "error 12 at the first", "error 12 at a middle one", "error 13 at the first", "error 13 at a middle one")
}

// With each number of free pages: where it ends, cut tells.
func TestP18_5Room(t *testing.T) {
	t.Parallel()
	r, met := draw.Numbers(423), met{}
	for round := range 150 {
		g := grove.Any(&r, 1+round%3)
		s, trees := grove.Setting{Refs: 4, Clones: round % 2, More: 120, Lasting: []int{4, 2}[round/2%2]}.Lay(&r, g)
		at := r.Below(len(g.Pairs))
		to := min(len(g.Pairs)-1, at+3+r.Below(5))
		k := api.Range{Lo: g.Pairs[at].Key, Hi: g.Pairs[to].Key}
		for n := 0; ; n++ {
			left := s.Copy()
			left.Leave(&r, n)
			x, of := trims(t, vaultOf(t, left), trees[0], k, trees[1:]...)
			if x.e == 0 {
				met["in the end it is done"]++
				break
			}
			met[fmt.Sprintf("error %d %s", x.e, where(x.at, of))]++
		}
	}
	met.wants(t, 150, "in the end it is done")
	met.wants(t, 20, "error 12 at the first", "error 12 at a middle one")
	met.wants(t, 3, "error 12 at the last")
}

// A leaf that is shared, whose value's page is at Refs: what lies in it cannot be cut, be
// it the first key, one in the middle or the last.
func TestP18_5Refs(t *testing.T) {
	pages := []api.Page{{}, {}, {}, {Kind: indexKind, Level: 1}, {Kind: blobKind, Data: value(40)}}
	for k, keys := range []string{"abcdefg", "hijklmn", "opqrstu"} {
		p := api.Page{Kind: leafKind}
		for _, x := range letters(keys) {
			p.Items = append(p.Items, api.Item{Key: x.Key})
		}
		pages[k] = p
		pages[3].Items = append(pages[3].Items, api.Item{Key: []byte(keys[:min(k, 1)]), Child: k + 1})
	}
	pages[1].Items[6].Size, pages[1].Items[6].Child = 40, 5
	for lasts := range 2 {
		s := grove.StoreOf(3, pages, 9)
		s.Counts[1], s.Counts[4] = 2, 3
		for k := range pages {
			s.Lasts[k] = lasts
		}
		for _, c := range []struct {
			r        api.Range
			want     api.Errno
			at, keys int
		}{
			{span("a", "d"), 0, 0, 3}, {span("q", "t"), 0, 0, 3},
			{span("a", "e"), errRefs, 3, 4}, {span("q", "u"), errRefs, 3, 4}, // the shared leaf is to lend an item
			{span("h", "k"), errRefs, 0, 3}, {span("h", "i"), errRefs, 0, 1}, {span("n", "r"), errRefs, 0, 4},
			{span("f", "i"), errRefs, 2, 3}, {span("e", "k"), errRefs, 3, 6}, {span("g", "p"), errRefs, 1, 9},
		} {
			v := vaultOf(t, s)
			x, n := trims(t, v, tree(4, 2, 21), c.r)
			equal(t, fmt.Sprint("Trim by ", c.r), fmt.Sprint(x.e, x.at, n), fmt.Sprint(c.want, c.at, c.keys))
			if c.want != 0 {
				unchanged(t, v, func() {
					y, n, e := bulk.Trim(v, tree(4, 2, 21), c.r)
					equal(t, "Trim", fmt.Sprint(y, n, e), fmt.Sprint(empty, 0, c.want))
				})
			}
		}
	}
}

// Marks that were made ahead of a Trim are good behind it, whether it is done or refused.
func TestP18_5Marks(t *testing.T) {
	t.Parallel()
	r, seen := draw.Numbers(424), map[api.Errno]int{}
	for round := range 60 {
		g := grove.Any(&r, 1+round%3)
		s, _ := grove.Setting{Refs: 2, More: r.Below(12), Lasting: 4, Shared: r.Below(2)}.Lay(&r, g)
		v, x := vaultOf(t, s), g.Tree
		var ahead marks
		for range 12 {
			ahead.add(v)
			k := someRange(&r, g)
			if r.Below(2) == 0 { // few keys lie there
				at := r.Below(len(g.Pairs))
				k = api.Range{Lo: g.Pairs[at].Key, Hi: g.Pairs[min(len(g.Pairs)-1, at+3)].Key}
			}
			came, n := trims(t, v, x, k)
			if n > 0 {
				seen[came.e]++
			}
			if came.e == 0 {
				x = came.tree
			}
		}
		ahead.good(t, v)
	}
	equal(t, "some were done, others not", seen[0] > 50 && seen[errSpace] > 20 && seen[errRefs] > 20, true)
}

// A tree is trimmed bit by bit, in any order, till nothing is left of it; a clone of it
// stays as it was.
func TestP18_6BitByBit(t *testing.T) {
	t.Parallel()
	r := draw.Numbers(425)
	for round := range 40 {
		g := grove.Any(&r, 1+round%3)
		s, _ := grove.Setting{Refs: 9, More: 400, Lasting: round % 5}.Lay(&r, g)
		v, x := vaultOf(t, s), g.Tree
		var others []api.Tree
		if round%2 == 0 {
			y, e := fork.Clone(v, x)
			equal(t, "Clone", e, 0)
			others = append(others, y)
		}
		all := 0
		for k := 0; x != empty; k++ {
			by := someRange(&r, g)
			if k > 30 {
				by = allKeys
			}
			came, _ := trims(t, v, x, by, others...)
			equal(t, "Trim", came.e, 0)
			x, all = came.tree, all+came.n
			counts, e := fork.Counts(v, append(slices.Clone(others), x)...)
			equal(t, "Counts", e, 0)
			equal(t, "the counts are right", slices.Equal(counts, v.Counts()), true)
		}
		equal(t, "how many in all", all, len(g.Pairs))
	}
}

// What is trimmed out of a tree and loaded again is there again; so are its two sides.
func TestP18_6ThereAndBack(t *testing.T) {
	t.Parallel()
	r := draw.Numbers(426)
	for round := range 60 {
		g := grove.Any(&r, 1+round%3)
		s, _ := grove.Setting{Refs: 4, More: 700, Lasting: round % 5}.Lay(&r, g)
		v := vaultOf(t, s)
		k := someRange(&r, g)
		came, _ := trims(t, v, g.Tree, k)
		equal(t, "Trim", came.e, 0)
		var gone []api.Pair
		for _, x := range g.Pairs {
			if lies(k, x.Key) {
				gone = append(gone, x)
			}
		}
		equal(t, "how many", came.n, len(gone))
		back := loads(t, v, came.tree, gone)
		equal(t, "Load", fmt.Sprint(back.n, back.e), fmt.Sprint(len(gone), api.OK))
		equal(t, "the pairs", told(pairs(t, v, back.tree)), told(g.Pairs))
		x, e := builds(t, v, pairs(t, v, back.tree), back.tree)
		equal(t, "Build", e, 0)
		equal(t, "the pairs of the tree that was built", told(pairs(t, v, x)), told(g.Pairs))
	}
}
