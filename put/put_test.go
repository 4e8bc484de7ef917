package put_test

import (
	"bytes"
	"fmt"
	"testing"

	"coppice/api"
	"coppice/draw"
	"coppice/grove"
	"coppice/put"
)

// The chapter's table, row by row.
func TestExamples(t *testing.T) {
	v := newVault(t, 12, 9)
	one := []byte("1")
	x := puts(t, v, empty, []byte("a"), one, tree(1, 1, 1), false)
	x = puts(t, v, x, []byte("a"), []byte("2"), tree(1, 1, 1), true)
	putsNot(t, v, x, nil, one, errKey)
	putsNot(t, v, x, make([]byte, 25), one, errKey)
	putsNot(t, v, x, []byte("a"), make([]byte, 3841), errValue)
	for i, k := range []byte("bcdefgh") {
		x = puts(t, v, x, []byte{k}, one, tree(1, 1, i+2), false)
	}
	equal(t, "the leaf", keys(t, v, 1), "a b c d e f g h")
	x = puts(t, v, x, []byte("i"), one, tree(3, 2, 9), false)
	equal(t, "the left half", keys(t, v, 1), "a b c d")
	equal(t, "the right half", keys(t, v, 2), "e f g h i")
	equal(t, "the index", keys(t, v, 3)+leadsTo(t, v, 3), "- e[1 2]")
	equal(t, "a clone", v.Keep(3), 0)
	u := puts(t, v, x, []byte("z"), one, tree(4, 2, 10), false)
	equal(t, "Counts", fmt.Sprint(v.Counts()), "[2 1 1 1 1 0 0 0 0 0 0 0]")
	equal(t, "the clone's index", keys(t, v, 4)+leadsTo(t, v, 4), "- e[1 5]")
	equal(t, "the old index", keys(t, v, 3)+leadsTo(t, v, 3), "- e[1 2]")
	equal(t, "the clone's leaf", keys(t, v, 5), "e f g h i z")
	equal(t, "the old leaf", keys(t, v, 2), "e f g h i")
	w := puts(t, v, u, []byte("y"), value(1000), tree(4, 2, 11), false)
	for n, want := range map[int][]byte{6: value(1000)[960:], 7: value(1000)[480:960], 8: value(1000)[:480]} {
		p, e := v.Read(n)
		equal(t, "Read", e, 0)
		equal(t, fmt.Sprintf("page %d", n), string(p.Data), string(want))
	}
	equal(t, "from the first page on", leadsTo(t, v, 5)+leadsTo(t, v, 8)+leadsTo(t, v, 7)+leadsTo(t, v, 6), "[8][7][6][]")
	equal(t, "Free", v.Tally(free), 4)
	putsNot(t, v, w, []byte("x"), value(3840), errSpace)
	stand(t, v, x, w)
}

// What is no key, and what is no value, in vaults with free pages and without.
func TestP15_1NoKeyNoValue(t *testing.T) {
	t.Parallel()
	r := draw.Numbers(151)
	for _, g := range grove.Trees(&r, 3) {
		for _, more := range []int{0, 40} {
			c := grove.Setting{Refs: 3, More: more, Lasting: r.Below(5)}
			s, _ := c.Lay(&r, g)
			v := vaultOf(t, s)
			for _, n := range []int{0, maxKey + 1, 256 + maxKey, 1<<16 + 3} {
				for _, size := range []int{0, inline + 1, maxValue, maxValue + 1, 1 << 16} {
					putsNot(t, v, g.Tree, make([]byte, n), make([]byte, size), errKey)
				}
			}
			for _, n := range []int{1, maxKey} {
				for _, size := range []int{maxValue + 1, 1<<16 + 1, 1 << 20} {
					putsNot(t, v, g.Tree, make([]byte, n), make([]byte, size), errValue)
				}
			}
		}
	}
}

// Keys and values of each length that is allowed, into each kind of tree.
func TestP15_2Lengths(t *testing.T) {
	t.Parallel()
	r := draw.Numbers(152)
	for _, g := range grove.Trees(&r, 2) {
		for n := 1; n <= maxKey; n++ {
			c := grove.Setting{Refs: 3, More: 30, Clones: n % 2, Lasting: r.Below(5)}
			s, trees := c.Lay(&r, g)
			v := vaultOf(t, s)
			_, _, e := holds(t, v, g.Tree, bytes.Repeat([]byte{byte(r.Below(256))}, n), value(r.Below(50)), trees[1:]...)
			equal(t, "a key of any length", e, 0)
		}
		sizes := []int{0, 1, 2, inline - 1, inline, inline + 1, inline + 2, 255, 256}
		for n := 1; n <= maxValue/chunk; n++ {
			sizes = append(sizes, n*chunk-1, n*chunk, min(n*chunk+1, maxValue))
		}
		for _, size := range sizes {
			c := grove.Setting{Refs: 3, More: 30, Clones: size % 2, Lasting: r.Below(5)}
			s, trees := c.Lay(&r, g)
			v := vaultOf(t, s)
			x, did, e := holds(t, v, g.Tree, []byte("new"), value(size), trees[1:]...)
			equal(t, "a value of any length", e, 0)
			equal(t, "its pages", did.to, pagesOf(value(size)))
			_, did, e = holds(t, v, x, []byte("new"), value(5), trees[1:]...)
			equal(t, "and another one in its place", e, 0)
			equal(t, "the pages of the old value", did.from, pagesOf(value(size)))
		}
	}
}

// kinds is what kinds of puts were met.
type kinds map[string]int

func (k kinds) add(x api.Tree, d did, e api.Errno) {
	if e != 0 {
		k[fmt.Sprintf("%d at %s", e, d.failed)]++
		return
	}
	k[fmt.Sprintf("height %d, grew %t", x.Height, d.grew)]++
	k[fmt.Sprintf("height %d, %d splits", x.Height, d.splits)]++
	k[fmt.Sprintf("height %d, %d shadows", x.Height, d.shadows)]++
	place := "between"
	switch {
	case d.at == 0:
		place = "first"
	case d.at == d.of, d.there && d.at == d.of-1:
		place = "last"
	}
	k[fmt.Sprintf("height %d, there %t, %s", x.Height, d.there, place)]++
	k[fmt.Sprintf("there %t, split %t, pages from %t to %t", d.there, d.splits > 0, d.from > 0, d.to > 0)]++
}

// wants: each of these was met so many times.
func (k kinds) wants(t *testing.T, n int, what ...string) {
	t.Helper()
	for _, w := range what {
		if k[w] < n {
			t.Errorf("%q was met %d times", w, k[w])
		}
	}
}

// Trees of each height up to 4 in settings of all kinds; keys that are there and such
// that are not.
func TestP15_2Settings(t *testing.T) {
	t.Parallel()
	r, met := draw.Numbers(153), kinds{}
	for round := range 600 {
		g := grove.Any(&r, 1+round%4)
		if round%40 == 0 {
			g = grove.Grow(&r, nil, grove.Few)
		}
		for range 4 {
			s, trees := grove.Settings(&r).Lay(&r, g)
			v := vaultOf(t, s)
			_, did, e := holds(t, v, g.Tree, g.SomeKey(&r), someValue(&r, 3), trees[1:]...)
			met.add(g.Tree, did, e)
		}
	}
	met.wants(t, 5, "12 at value", "12 at root", "12 at root's half", "12 at new root", "12 at child", "12 at child's half", "13 at root", "13 at child")
	for h := 1; h <= 4; h++ {
		for _, place := range []string{"first", "last", "between"} {
			met.wants(t, 5, fmt.Sprintf("height %d, there true, %s", h, place), fmt.Sprintf("height %d, there false, %s", h, place))
		}
		met.wants(t, 5, fmt.Sprintf("height %d, grew true", h), fmt.Sprintf("height %d, grew false", h))
		for n := range h + 1 {
			met.wants(t, 5, fmt.Sprintf("height %d, %d splits", h, n), fmt.Sprintf("height %d, %d shadows", h, n))
		}
	}
	for _, split := range []bool{true, false} {
		for _, to := range []bool{true, false} {
			met.wants(t, 5, fmt.Sprintf("there false, split %t, pages from false to %t", split, to))
			met.wants(t, 5, fmt.Sprintf("there true, split %t, pages from false to %t", split, to), fmt.Sprintf("there true, split %t, pages from true to %t", split, to))
		}
	}
}

// Each place in a full leaf, and in one that is not, beneath a full index and one that
// is not: the key goes to the half in whose range it lies.
func TestP15_2EachPlace(t *testing.T) {
	t.Parallel()
	letter := func(n int) byte { return byte(2*n + 2) }
	for _, n := range []int{1, 4, 7, 8, 9, 16, 31, 32, 33, 63, 64, 65} {
		var l []api.Pair
		for k := range n {
			l = append(l, api.Pair{Key: []byte{letter(k)}, Value: []byte{byte(k)}})
		}
		r := draw.Numbers(154)
		for _, take := range []grove.Share{grove.Few, grove.Many} {
			for _, c := range []grove.Setting{{Refs: 3, More: 20}, {Refs: 3, More: 20, Clones: 1}, {Refs: 3, More: 20, Lasting: 4}} {
				s, trees := c.Lay(&r, grove.Grow(&r, l, take))
				for k := 1; k <= int(letter(n)); k++ {
					_, did, e := holds(t, vaultOf(t, s), trees[0], []byte{byte(k)}, []byte("v"), trees[1:]...)
					equal(t, "Put", e, 0)
					equal(t, "there", did.there, k%2 == 0 && k < int(letter(n)))
				}
			}
		}
	}
}

// A separator between two leaves is as short as can be, and above the last key of the
// left half; keys that begin alike for long.
func TestP15_2Separators(t *testing.T) {
	for _, c := range []struct{ last, first, sep string }{
		{"d", "e", "e"}, {"d", "ea", "e"}, {"da", "db", "db"}, {"da", "dbc", "db"}, {"d", "d\x00", "d\x00"}, {"d", "da", "d\x00"},
		{"d\xff", "e", "e"}, {"d\xff\xff", "e\x00", "e"}, {"dzz", "f", "e"}, {"d", "dz", "d\x00"}, {"dx", "dzz", "dy"},
	} {
		v := newVault(t, 9, 2)
		x := empty
		for _, k := range []string{"a", "b", "c", c.last, c.first, "x", "y", "z"} {
			x, _, _ = put.Put(v, x, []byte(k), nil)
		}
		for _, k := range []string{"0", "zz", c.last, c.first, c.sep} {
			mark := v.Mark()
			y, _, e := holds(t, v, x, []byte(k), []byte("v"))
			equal(t, "Put", e, 0)
			equal(t, "Height", y.Height, 2)
			equal(t, "the separator", keys(t, v, y.Root), "- "+c.sep)
			v.Undo(mark)
		}
	}
}

// A value in the place of another one: shorter, longer, the same, with pages and without.
func TestP15_2Replaced(t *testing.T) {
	r := draw.Numbers(155)
	sizes := []int{0, 1, inline, inline + 1, chunk, chunk + 1, 2 * chunk, maxValue}
	for _, from := range sizes {
		for _, to := range sizes {
			for _, c := range []grove.Setting{{Lasting: 0}, {Lasting: 4}, {Clones: 1}, {Clones: 1, Lasting: 4}, {Lasting: 2, Shared: 2}} {
				c.Refs, c.More = 4, 30
				l := grove.Pairs(&r, 1+r.Below(30), 2000)
				at := r.Below(len(l))
				l[at].Value = value(from)
				s, trees := c.Lay(&r, grove.Grow(&r, l, grove.Some(&r)))
				v := vaultOf(t, s)
				y, did, e := holds(t, v, trees[0], l[at].Key, value(to), trees[1:]...)
				equal(t, "Put", e, 0)
				equal(t, "there", did.there, true)
				equal(t, "Items", y.Items, len(l))
				equal(t, "pages that went", did.from, pagesOf(value(from)))
				if c.Lasting+c.Clones == 0 { // the new value's pages, and one more for each split and the root
					equal(t, "Fresh", v.Tally(fresh)-s.Tally(fresh), pagesOf(value(to))-pagesOf(value(from))+did.splits+y.Height-trees[0].Height)
				}
			}
		}
	}
}

// The pages of the old value are dropped behind the making of those of the new one: in
// a vault that has no room for both at a time there is none.
func TestP15_1BothValuesAtATime(t *testing.T) {
	for _, size := range []int{inline + 1, chunk, chunk + 1, maxValue} {
		n := pagesOf(value(size))
		v := newVault(t, 2*n, 2)
		x := puts(t, v, empty, []byte("a"), value(size), tree(n+1, 1, 1), false)
		putsNot(t, v, x, []byte("a"), value(size), errSpace)
		x = puts(t, v, x, []byte("a"), value(inline), x, true)
		equal(t, "Free", v.Tally(free), 2*n-1)
		v = newVault(t, 2*n+1, 2)
		x = puts(t, v, empty, []byte("a"), value(size), tree(n+1, 1, 1), false)
		x = puts(t, v, x, []byte("a"), value(size), x, true)
		equal(t, "Free", v.Tally(free), n)
		equal(t, "the new value lies behind it", leadsTo(t, v, n+1), fmt.Sprintf("[%d]", 2*n+1))
		stand(t, v, x)
	}
}

// A full vault: of the steps the first one that cannot be done tells.
func TestP15_1WhichError(t *testing.T) {
	leaf := func(letters string, child int) api.Page {
		p := api.Page{Kind: leafKind}
		for _, k := range []byte(letters) {
			p.Items = append(p.Items, api.Item{Key: []byte{k}})
		}
		p.Items[0] = api.Item{Key: p.Items[0].Key, Size: 40, Child: child}
		return p
	}
	pages := []api.Page{leaf("abcd", 4), leaf("mnop", 5),
		{Kind: indexKind, Level: 1, Items: []api.Item{{Child: 1}, {Key: []byte("m"), Child: 2}}},
		{Kind: blobKind, Data: value(40)}, {Kind: blobKind, Data: value(40)}}
	for _, c := range []struct {
		counts [5]int
		more   int
		size   int
		want   api.Errno
	}{
		{[5]int{1, 1, 2, 1, 1}, 0, 0, errSpace},  // of the root's shadow
		{[5]int{3, 1, 2, 1, 1}, 0, 0, errSpace},  // within one shadowing it stands ahead of ErrRefs
		{[5]int{3, 1, 2, 1, 1}, 1, 0, errRefs},   // of the first child
		{[5]int{1, 3, 2, 1, 1}, 1, 0, errRefs},   // of the second one
		{[5]int{1, 3, 1, 1, 1}, 0, 0, 0},         // the root is its own
		{[5]int{3, 1, 1, 3, 1}, 1, 0, errRefs},   // of the leaf's value
		{[5]int{3, 1, 1, 3, 1}, 0, 0, errSpace},  // of the leaf's shadow
		{[5]int{3, 1, 1, 1, 3}, 1, 0, 0},         // the other leaf's value
		{[5]int{2, 2, 2, 2, 2}, 2, 0, 0},         // both shadows
		{[5]int{2, 2, 2, 2, 2}, 1, 0, errSpace},  // of the leaf's shadow
		{[5]int{2, 2, 3, 3, 2}, 2, 0, errRefs},   // of the leaf's value, behind all shadows
		{[5]int{2, 2, 3, 3, 2}, 2, 33, errSpace}, // of the leaf's shadow: the value took a page
		{[5]int{3, 1, 2, 1, 1}, 1, 33, errSpace}, // of the root's shadow
		{[5]int{3, 1, 2, 1, 1}, 1, 481, errSpace},
		{[5]int{3, 1, 2, 1, 1}, 2, 33, errRefs},
		{[5]int{1, 1, 1, 1, 1}, 0, 33, errSpace}, // of the value
		{[5]int{1, 1, 1, 1, 1}, 1, 33, 0},
	} {
		for _, key := range []string{"a", "c", "e"} {
			s := grove.StoreOf(3, pages, c.more)
			copy(s.Counts, c.counts[:])
			_, _, e := holds(t, vaultOf(t, s), tree(3, 2, 8), []byte(key), value(c.size))
			equal(t, fmt.Sprintf("Put of %s, %v", key, c), e, c.want)
		}
	}
}

// Marks that were made ahead of a put are good behind it, whether it is done or refused;
// none that was made ahead of a Settle is.
func TestP15_1Marks(t *testing.T) {
	r := draw.Numbers(156)
	for round := range 20 {
		v, x := newVault(t, 40, 2), empty
		var marks []int
		var stores []*grove.Store
		for k := range 30 {
			marks, stores = append(marks, v.Mark()), append(stores, grove.StoreFrom(v))
			y, _, e := holds(t, v, x, grove.Key(&r), someValue(&r, 2))
			if e == 0 {
				x = y
			}
			if k == round {
				v.Settle()
				for _, mark := range marks {
					equal(t, "Undo of what was settled", mark < v.Mark() && v.Undo(mark), false)
				}
				marks, stores = nil, nil
			}
		}
		putsNot(t, v, x, nil, nil, errKey)
		putsNot(t, v, x, []byte("a"), make([]byte, maxValue+1), errValue)
		for v.Tally(free) > 5 { // a value of so many pages, that is made, and then refused for a lack of room
			v.Make(api.Page{Kind: blobKind, Data: value(7)})
		}
		putsNot(t, v, x, []byte("a"), value(6*chunk), errSpace)
		for k := len(marks) - 1; k >= 0; k-- {
			equal(t, "Undo", v.Undo(marks[k]), true)
			equal(t, "Mark", v.Mark(), marks[k])
			equal(t, "a page that is not as it was", stores[k].Differs(v), 0)
		}
	}
}

// Without a free page there is no tree out of the empty one, and with one there is.
func TestP15_1TheEmptyTree(t *testing.T) {
	for _, size := range []int{0, inline, inline + 1, chunk + 1, maxValue} {
		n := pagesOf(value(size))
		for pages := 1; pages <= n+2; pages++ {
			for gone := range 3 {
				s := grove.StoreOf(2, make([]api.Page, pages), 0)
				for k := range min(gone, pages) { // Fresh, Held or Pending
					s.On[k], s.Counts[k], s.Lasts[k] = api.Page{Kind: blobKind, Data: value(3)}, gone%2, k%2
				}
				left := s.Tally(free)
				x, _, e := holds(t, vaultOf(t, s), empty, []byte("a"), value(size))
				want := api.Errno(0)
				if left < n+1 {
					want = errSpace
				}
				equal(t, "Put", e, want)
				equal(t, "the tree", e != 0 || x.Height == 1 && x.Items == 1, true)
			}
		}
	}
}

// A vault that lasts: Held pages are shadowed once, and the shadows are the tree's own
// until the next Settle.
func TestP15_6Settle(t *testing.T) {
	v := newVault(t, 6, 9)
	x := puts(t, v, empty, []byte("a"), []byte("1"), tree(1, 1, 1), false)
	v.Settle()
	x = puts(t, v, x, []byte("b"), []byte("2"), tree(2, 1, 2), false)
	equal(t, "the old leaf", v.State(1), pending)
	equal(t, "the new leaf", v.State(2), fresh)
	x = puts(t, v, x, []byte("c"), []byte("3"), tree(2, 1, 3), false)
	equal(t, "what lasts", v.Tally(pending), 1)
	v.Settle()
	equal(t, "the old leaf", v.State(1), free)
	x = puts(t, v, x, []byte("c"), []byte("4"), tree(1, 1, 3), true)
	equal(t, "its pairs", told(pairs(t, v, x)), "61=31 62=32 63=34 ")
	equal(t, "Settled by put", v.Undo(0), false)
}
