package cut_test

import (
	"bytes"
	"fmt"
	"slices"
	"testing"

	"coppice/api"
	"coppice/draw"
	"coppice/grove"
	"coppice/put"
	"coppice/vault"
)

// The chapter's table, row by row.
func TestExamples(t *testing.T) {
	v := newVault(t, 12, 9)
	x := grown(t, v, "abcdefghi")
	equal(t, "the tree of chapter 15", x, tree(3, 2, 9))
	cutsNot(t, v, x, []byte("x"), 0)
	cutsNot(t, v, x, nil, errKey)
	cutsNot(t, v, empty, []byte("a"), 0)
	x = cuts(t, v, x, "b", tree(3, 2, 8))
	equal(t, "leaf 1", keys(t, v, 1), "a c d e")
	equal(t, "leaf 2", keys(t, v, 2), "f g h i")
	equal(t, "the index", keys(t, v, 3)+leadsTo(t, v, 3), "- f[1 2]")
	equal(t, "the same tree once more", v.Keep(3), 0)
	u := cuts(t, v, x, "g", tree(6, 1, 7))
	equal(t, "its leaf", keys(t, v, 6), "a c d e f h i")
	equal(t, "5 and 4 are free again", fmt.Sprint(v.Counts()), "[1 1 1 0 0 1 0 0 0 0 0 0]")
	equal(t, "the other tree", keys(t, v, 1)+", "+keys(t, v, 2)+", "+keys(t, v, 3)+leadsTo(t, v, 3), "a c d e, f g h i, - f[1 2]")
	x = cuts(t, v, x, "i", tree(1, 1, 7))
	equal(t, "the root", keys(t, v, 1), "a c d e f g h")
	equal(t, "2 and 3 are taken", fmt.Sprint(v.Counts()), "[1 0 0 0 0 1 0 0 0 0 0 0]")
	for k, letter := range []string{"a", "c", "d", "e", "f", "g"} {
		x = cuts(t, v, x, letter, tree(1, 1, 6-k))
	}
	cuts(t, v, x, "h", empty)
	equal(t, "page 6 alone has a count", fmt.Sprint(v.Counts()), "[0 0 0 0 0 1 0 0 0 0 0 0]")
	equal(t, "the clone", keys(t, v, 6), "a c d e f h i")
	stand(t, v, u)
}

// What is no key, in vaults with free pages and without.
func TestP16_1NoKey(t *testing.T) {
	t.Parallel()
	r := draw.Numbers(251)
	for _, g := range grove.Trees(&r, 3) {
		for _, more := range []int{0, 40} {
			s, _ := grove.Setting{Refs: 3, More: more, Lasting: r.Below(5)}.Lay(&r, g)
			v := vaultOf(t, s)
			for _, n := range []int{0, maxKey + 1, maxKey + 2, 256 + maxKey, 1<<16 + 3} {
				cutsNot(t, v, g.Tree, make([]byte, n), errKey)
				cutsNot(t, v, g.Tree, bytes.Repeat([]byte{0xff}, n), errKey)
				cutsNot(t, v, empty, make([]byte, n), errKey)
			}
			if len(g.Pairs) > 0 { // a key of the tree, and more behind it
				cutsNot(t, v, g.Tree, append(bytes.Clone(g.Pairs[0].Key), make([]byte, maxKey)...), errKey)
			}
		}
	}
}

// A key that is not there needs nothing: no free page, and no count below Refs.
func TestP16_1NotThere(t *testing.T) {
	t.Parallel()
	r, met := draw.Numbers(252), map[string]int{}
	for _, g := range grove.Trees(&r, 3) {
		s, _ := grove.Setting{Refs: 3, More: 5, Lasting: r.Below(5)}.Lay(&r, g)
		full := s.Copy()
		full.Leave(&r, 0)
		for k, c := range full.Counts {
			full.Counts[k] = 3 * min(c, 1)
		}
		for _, v := range []*vault.Vault{vaultOf(t, s), vaultOf(t, full)} {
			for _, key := range g.Rows(&r, 10) {
				if _, is := g.Get(key); is || len(key) < 1 || len(key) > maxKey {
					continue
				}
				cutsNot(t, v, g.Tree, key, 0)
				switch {
				case len(g.Pairs) == 0:
					met["the empty tree"]++
				case len(g.Floor(key)) == 0:
					met["below the first"]++
				case len(g.Ceil(key)) == 0:
					met["above the last"]++
				default:
					met["between two"]++
				}
				met[fmt.Sprintf("%d bytes", len(key))]++
			}
		}
	}
	for _, what := range []string{"the empty tree", "below the first", "above the last", "between two", "1 bytes", "24 bytes"} {
		equal(t, what, met[what] > 5, true)
	}
}

// Keys of each length that is allowed, out of each kind of tree.
func TestP16_2Lengths(t *testing.T) {
	t.Parallel()
	r := draw.Numbers(253)
	for height := 1; height <= 3; height++ {
		for n := 1; n <= maxKey; n++ {
			l := grove.Pairs(&r, grove.Fewest(height)+r.Below(5), 3000)
			key := bytes.Repeat([]byte{byte(r.Below(256))}, n)
			l, _ = without(l, key)
			at := 0
			for at < len(l) && bytes.Compare(l[at].Key, key) < 0 {
				at++
			}
			l = append(l[:at:at], append([]api.Pair{{Key: key, Value: value(r.Below(600))}}, l[at:]...)...)
			g := grove.Grow(&r, l, grove.Some(&r))
			s, trees := grove.Setting{Refs: 3, More: 30, Clones: n % 2, Lasting: r.Below(5)}.Lay(&r, g)
			_, did, e := holds(t, vaultOf(t, s), g.Tree, key, trees[1:]...)
			equal(t, "a key of any length", did.there && e == 0, true)
		}
	}
}

// lean makes trees whose last page of each level has the least and the one ahead of it
// more, or, from the left on, the first one and the one behind it; if there are leanKeys.
func lean(fromLeft bool) grove.Share {
	return func(left, of int) int {
		if fromLeft && left == of-least || !fromLeft && left == 2*least+1 {
			return least + 1
		}
		return least
	}
}

// leanKeys is how many keys such a tree of a height has.
func leanKeys(height int) int {
	n := 2
	for range height - 1 {
		n = least*n + 1
	}
	return n
}

// someTree is a tree of a height, of any kind.
func someTree(r *draw.Numbers, height int) *grove.Grown {
	if r.Below(4) == 0 {
		return grove.Grow(r, grove.Pairs(r, leanKeys(height), 5000), lean(r.Below(2) == 0))
	}
	return grove.Any(r, height)
}

// keyOf is a key of the tree, or, now and then, one beside its keys and separators.
func keyOf(r *draw.Numbers, g *grove.Grown) []byte {
	if len(g.Pairs) == 0 || r.Below(8) == 0 {
		return g.SomeKey(r)
	}
	n := len(g.Pairs)
	near := r.Below(min(n, 24)) // the edges are full here and there
	return g.Pairs[[]int{0, n - 1, near, n - 1 - near, r.Below(n), r.Below(n)}[r.Below(6)]].Key
}

// Trees of each height up to 4 in settings of all kinds.
func TestP16_2Settings(t *testing.T) {
	t.Parallel()
	r, met := draw.Numbers(254), kinds{}
	for round := range 480 {
		g := someTree(&r, 1+round%4)
		if round%40 == 0 {
			g = grove.Grow(&r, nil, grove.Few)
		}
		for k := range 6 {
			c := grove.Settings(&r)
			if k == 0 { // many counts are at Refs
				c.Refs, c.Shared, c.More = 2, 1+r.Below(2), 30
			}
			s, trees := c.Lay(&r, g)
			_, did, e := holds(t, vaultOf(t, s), g.Tree, keyOf(&r, g), trees[1:]...)
			met.add(g.Tree, did, e)
		}
	}
	met.wants(t, 5, "12 at root", "12 at child", "12 at "+rightLends, "12 at "+leftLends, "12 at "+childTaken)
	met.wants(t, 5, "13 at root", "13 at child", "13 at "+rightLends, "13 at "+leftLends, "13 at "+childTaken, "13 at taking: "+rightTaken)
	for h := 1; h <= 4; h++ {
		met.wants(t, 5, fmt.Sprintf("height %d, not there", h), fmt.Sprintf("height %d, fell true", h), fmt.Sprintf("height %d, fell false", h))
		for _, place := range []string{"first", "last", "between"} {
			met.wants(t, 5, fmt.Sprintf("height %d, %s", h, place))
		}
		for n := range 2*h - 1 {
			met.wants(t, 5, fmt.Sprintf("height %d, %d shadows", h, n))
		}
	}
	for _, how := range []string{rightLends, leftLends, rightTaken, childTaken} {
		for level := range 3 {
			met.wants(t, 5, fmt.Sprintf("%s, level %d", how, level))
		}
		met.wants(t, 5, how+", beneath the root true", how+", beneath the root false")
	}
	met.wants(t, 5, "height 0, not there", "pages true", "pages false")
}

// Each key, and each place beside one, out of trees whose pages have few items, and out
// of those whose pages are full.
func TestP16_2EachPlace(t *testing.T) {
	t.Parallel()
	r := draw.Numbers(255)
	for _, n := range []int{1, 2, 3, 4, 7, 8, 9, 16, 31, 32, 33, 63, 64, 65} {
		for _, take := range []grove.Share{grove.Few, grove.Many, grove.Some(&r)} {
			for _, c := range []grove.Setting{{Refs: 3, More: 20}, {Refs: 3, More: 20, Clones: 1}, {Refs: 3, More: 20, Lasting: 4}} {
				s, trees := c.Lay(&r, grove.Grow(&r, letters(n), take))
				for k := 1; k <= 2*n+2; k++ {
					_, did, e := holds(t, vaultOf(t, s), trees[0], []byte{byte(k)}, trees[1:]...)
					equal(t, "Cut", e, 0)
					equal(t, "there", did.there, k%2 == 0 && k <= 2*n)
				}
			}
		}
	}
}

// wayOf is how a child of so many items is filled, with neighbours of so many, 0: there
// is none.
func wayOf(left, child, right int) string {
	switch {
	case child > least:
		return ""
	case right > least:
		return rightLends
	case left > least:
		return leftLends
	case right == least:
		return rightTaken
	}
	return childTaken
}

// places are settings in which no page, some or all are shared, and none, some or all last.
func places() []grove.Setting {
	l := []grove.Setting{{}, {Clones: 1}, {Lasting: 4}, {Clones: 1, Lasting: 4}, {Shared: 4}, {Shared: 2, Lasting: 2}}
	for k := range l {
		l[k].Refs, l[k].More = 5, 20
	}
	return l
}

// Each way of filling a leaf, and each one only where none ahead of it can be: leaves
// with more than the least and with the least, beside such, and at both ends.
func TestP16_2FilledLeaves(t *testing.T) {
	t.Parallel()
	r, met := draw.Numbers(256), map[string]int{}
	for _, left := range []int{0, 4, 5, 8} {
		for _, child := range []int{4, 5, 8} {
			for _, right := range []int{0, 4, 5, 8} {
				sizes := slices.DeleteFunc([]int{left, child, right}, func(n int) bool { return n == 0 })
				if len(sizes) < 2 {
					continue
				}
				g := grove.Grow(&r, letters(left+child+right), grove.Sized(sizes))
				for _, c := range places() {
					s, trees := c.Lay(&r, g)
					for at := left; at < left+child; at++ {
						_, did, e := holds(t, vaultOf(t, s), g.Tree, g.Pairs[at].Key, trees[1:]...)
						equal(t, "Cut", e, 0)
						equal(t, fmt.Sprintf("the way, %d items between %d and %d", child, left, right), fmt.Sprintf("%q", did.fills), fmt.Sprintf("%q", []string{wayOf(left, child, right)}))
						equal(t, "the root is taken", did.fell, len(sizes) == 2 && left+child+right == 8)
						met[did.fills[0]]++
					}
				}
			}
		}
	}
	equal(t, "all ways", len(met), 5)
}

// Each way of filling an index, likewise; the leaves have more than the least, or just
// that, so that they are filled too.
func TestP16_2FilledIndexes(t *testing.T) {
	t.Parallel()
	r, met := draw.Numbers(257), map[string]int{}
	for _, left := range []int{0, 4, 5, 8} {
		for _, child := range []int{4, 5, 8} {
			for _, right := range []int{0, 4, 5, 8} {
				sizes := slices.DeleteFunc([]int{left, child, right}, func(n int) bool { return n == 0 })
				if len(sizes) < 2 {
					continue
				}
				for _, items := range []int{4, 5} {
					each := slices.Repeat([]int{items}, left+child+right)
					g := grove.Grow(&r, letters(items*len(each)), grove.Sized(each, sizes))
					equal(t, "Height", g.Tree.Height, 3)
					c := places()[r.Below(6)]
					s, trees := c.Lay(&r, g)
					for at := left * items; at < (left+child)*items; at += 1 + r.Below(3) {
						_, did, e := holds(t, vaultOf(t, s), g.Tree, g.Pairs[at].Key, trees[1:]...)
						equal(t, "Cut", e, 0)
						equal(t, fmt.Sprintf("the way, %d items between %d and %d", child, left, right), did.fills[0], wayOf(left, child, right))
						equal(t, "the leaf is filled", did.fills[1] != "", items == least)
						equal(t, "the root is taken", did.fell, len(sizes) == 2 && left+child+right == 8)
						met[did.fills[0]]++
					}
				}
			}
		}
	}
	equal(t, "all ways", len(met), 5)
}

// Indexes that lend and that are joined, written out.
func TestP16_2IndexesWrittenOut(t *testing.T) {
	for _, c := range []struct {
		left, right int // leaves of five keys beneath the two indexes: a1 to a5, b1 to b5, ..
		key         string
		want        string // the indexes from the left on, or the root
	}{
		{4, 5, "b1", "[- f] [- b c d e] [- g h i]"},
		{5, 4, "h1", "[- e] [- b c d] [- f g h i]"},
		{4, 4, "b1", "[- b c d e f g h]"},
		{4, 4, "h1", "[- b c d e f g h]"},
		{5, 5, "b1", "[- f] [- b c d e] [- g h i j]"},
	} {
		var leaves []api.Page
		for k := range c.left + c.right {
			p := api.Page{Kind: leafKind}
			for n := range 5 {
				p.Items = append(p.Items, api.Item{Key: []byte{'a' + byte(k), '1' + byte(n)}})
			}
			leaves = append(leaves, p)
		}
		index := func(from, to int) api.Page {
			p := api.Page{Kind: indexKind, Level: 1}
			for k := from; k < to; k++ {
				p.Items = append(p.Items, api.Item{Key: []byte{'a' + byte(k)}, Child: k + 1})
			}
			p.Items[0].Key = nil
			return p
		}
		n := len(leaves)
		pages := append(leaves, index(0, c.left), index(c.left, n), api.Page{Kind: indexKind, Level: 2,
			Items: []api.Item{{Child: n + 1}, {Key: []byte{'a' + byte(c.left)}, Child: n + 2}}})
		v := vaultOf(t, grove.StoreOf(3, pages, 4))
		y, _, e := holds(t, v, tree(n+3, 3, 5*n), []byte(c.key))
		equal(t, "Cut", e, 0)
		got := "[" + keys(t, v, y.Root) + "]"
		if y.Height == 3 {
			got += " [" + keys(t, v, n+1) + "] [" + keys(t, v, n+2) + "]"
		}
		equal(t, "the indexes", got, c.want)
	}
}

// What is lent between leaves makes a separator that is as short as can be: it is made of
// the keys that stand there ahead of the cut.
func TestP16_2Separators(t *testing.T) {
	for _, c := range []struct{ last, first, sep string }{
		{"d", "e", "e"}, {"d", "ea", "e"}, {"da", "db", "db"}, {"da", "dbc", "db"}, {"d", "d\x00", "d\x00"}, {"d", "da", "d\x00"},
		{"d\xff", "e", "e"}, {"d\xff\xff", "e\x00", "e"}, {"dzz", "f", "e"}, {"d", "dz", "d\x00"}, {"dx", "dzz", "dy"},
	} {
		leaf := func(keys ...string) api.Page {
			p := api.Page{Kind: leafKind}
			for _, k := range keys {
				p.Items = append(p.Items, api.Item{Key: []byte(k)})
			}
			return p
		}
		over := func(sep string) api.Page {
			return api.Page{Kind: indexKind, Level: 1, Items: []api.Item{{Child: 1}, {Key: []byte(sep), Child: 2}}}
		}
		for _, k := range []string{"a", "b", "c1", "c2"} { // the right one lends c.last
			v := vaultOf(t, grove.StoreOf(2, []api.Page{leaf("a", "b", "c1", "c2"), leaf(c.last, c.first, "x", "y", "z"), over(c.last)}, 1))
			y, _, e := holds(t, v, tree(3, 2, 9), []byte(k))
			equal(t, "Cut", e, 0)
			equal(t, "the separator", keys(t, v, y.Root), "- "+c.sep)
		}
		for _, k := range []string{"x", "y", "z", "z1"} { // the left one lends c.first
			v := vaultOf(t, grove.StoreOf(2, []api.Page{leaf("a", "b", "c", c.last, c.first), leaf("x", "y", "z", "z1"), over("x")}, 1))
			y, _, e := holds(t, v, tree(3, 2, 9), []byte(k))
			equal(t, "Cut", e, 0)
			equal(t, "the separator", keys(t, v, y.Root), "- "+c.sep)
		}
	}
}

// The pages of the value that is cut are dropped, and those of no other one.
func TestP16_2Values(t *testing.T) {
	t.Parallel()
	r := draw.Numbers(258)
	for _, size := range append(grove.Sizes(), 3*chunk, 7*chunk+1) {
		for _, c := range places() {
			for range 4 {
				l := grove.Pairs(&r, 1+r.Below(30), 2000)
				at := r.Below(len(l))
				l[at].Value = value(size)
				g := grove.Grow(&r, l, grove.Some(&r))
				s, trees := c.Lay(&r, g)
				v := vaultOf(t, s)
				y, did, e := holds(t, v, trees[0], l[at].Key, trees[1:]...)
				equal(t, "Cut", e, 0)
				equal(t, "pages that went", did.pages, pagesOf(value(size)))
				equal(t, "Items", y.Items, len(l)-1)
				if c.Clones+c.Shared == 0 {
					isAll(t, v, y)
				}
			}
		}
	}
}

// A value whose pages are shared: one place fewer leads to its first page.
func TestP16_2SharedValue(t *testing.T) {
	v := newVault(t, 9, 3)
	x, _, _ := put.Put(v, empty, []byte("a"), value(2*chunk))
	x, _, _ = put.Put(v, x, []byte("b"), value(1))
	equal(t, "the tree", x, tree(3, 1, 2))
	v.Keep(3)
	u := cuts(t, v, x, "a", tree(4, 1, 1))
	equal(t, "Counts", fmt.Sprint(v.Counts()), "[1 1 1 1 0 0 0 0 0]")
	stand(t, v, x, u)
	u = cuts(t, v, u, "b", empty)
	equal(t, "Counts", fmt.Sprint(v.Counts()), "[1 1 1 0 0 0 0 0 0]")
	x = cuts(t, v, x, "a", tree(3, 1, 1))
	equal(t, "Counts", fmt.Sprint(v.Counts()), "[0 0 1 0 0 0 0 0 0]")
}
