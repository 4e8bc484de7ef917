package walk_test

import (
	"bytes"
	"slices"
	"testing"

	"coppice/api"
	"coppice/draw"
	"coppice/vault"
)

// grown is a tree that is made by hand, with what it must tell.
type grown struct {
	tree   api.Tree
	pairs  []api.Pair // rising
	pages  []api.Page // from page 1 on; the zero Page: it is free
	levels [][]spot   // the leaves, the indexes above them, and so on, each from the left on
}

// spot is a leaf or an index; its keys lie from lo on, and below the lo of the next one
// of its level.
type spot struct {
	no int
	lo []byte
}

// share is how many of so many items, of more than Least, a page takes that has others
// behind it, if it can be so.
type share func(left int) int

// few makes trees as high as they can be, many as low as they can be; some of any kind.
func few(int) int  { return least }
func many(int) int { return most }
func some(r *draw.Numbers) share {
	return func(int) int { return least + r.Below(most-least+1) }
}

// grow makes a tree of these pairs, on pages whose numbers follow no rule; some pages
// are free. Separators are any keys that may stand there.
func grow(r *draw.Numbers, pairs []api.Pair, take share) *grown {
	g := &grown{pairs: pairs}
	if len(pairs) == 0 {
		g.pages = make([]api.Page, 1+r.Below(3))
		return g
	}
	level := g.leaves(r, take)
	g.levels = [][]spot{level}
	for len(level) > 1 {
		level = g.indexes(level, take)
		g.levels = append(g.levels, level)
	}
	g.tree = api.Tree{Root: level[0].no, Height: len(g.levels), Items: len(pairs)}
	g.renumber(r)
	return g
}

// groups is how many of n items the pages of a level take.
func groups(n int, take share) []int {
	var l []int
	for n > most || n == most && take(n) == least {
		k := min(take(n), n-least)
		l = append(l, k)
		n -= k
	}
	return append(l, n)
}

func (g *grown) lay(p api.Page) int {
	g.pages = append(g.pages, p)
	return len(g.pages)
}

func (g *grown) leaves(r *draw.Numbers, take share) []spot {
	var level []spot
	at := 0
	for _, n := range groups(len(g.pairs), take) {
		p := api.Page{Kind: leafKind}
		for _, x := range g.pairs[at : at+n] {
			p.Items = append(p.Items, g.item(x))
		}
		var lo []byte
		if at > 0 {
			lo = between(r, g.pairs[at-1].Key, g.pairs[at].Key)
		}
		level = append(level, spot{g.lay(p), lo})
		at += n
	}
	return level
}

// item is the item of a pair; the pages of its value lie in no order.
func (g *grown) item(x api.Pair) api.Item {
	i := api.Item{Key: x.Key, Value: x.Value, Size: len(x.Value)}
	if i.Size <= inline {
		return i
	}
	i.Value = nil
	for to := i.Size; to > 0; {
		at := (to - 1) / chunk * chunk
		i.Child = g.lay(api.Page{Kind: blobKind, Data: x.Value[at:to], Next: i.Child})
		to = at
	}
	return i
}

func (g *grown) indexes(beneath []spot, take share) []spot {
	var level []spot
	at := 0
	for _, n := range groups(len(beneath), take) {
		p := api.Page{Kind: indexKind, Level: len(g.levels)}
		for k, child := range beneath[at : at+n] {
			i := api.Item{Key: child.lo, Child: child.no}
			if k == 0 {
				i.Key = nil
			}
			p.Items = append(p.Items, i)
		}
		level = append(level, spot{g.lay(p), beneath[at].lo})
		at += n
	}
	return level
}

// between is a key that is above a and not above b, both keys, a below b.
func between(r *draw.Numbers, a, b []byte) []byte {
	k := b
	switch r.Below(3) {
	case 0: // the shortest beginning of b that is above a
		for n := len(b); n > 0 && bytes.Compare(b[:n], a) > 0; n-- {
			k = b[:n]
		}
	case 1: // what comes next behind a
		if len(a) < maxKey {
			k = append(bytes.Clone(a), 0)
		}
	}
	return bytes.Clone(k)
}

// shuffle is the numbers from 1 to n in no order.
func shuffle(r *draw.Numbers, n int) []int {
	l := make([]int, n)
	for k := range l {
		l[k] = k + 1
		with := r.Below(k + 1)
		l[k], l[with] = l[with], l[k]
	}
	return l
}

// renumber gives all pages other numbers.
func (g *grown) renumber(r *draw.Numbers) {
	to := shuffle(r, len(g.pages)+r.Below(4))
	other := func(n int) int {
		if n == 0 {
			return 0
		}
		return to[n-1]
	}
	pages := make([]api.Page, len(to))
	for k, p := range g.pages {
		for at := range p.Items {
			p.Items[at].Child = other(p.Items[at].Child)
		}
		p.Next = other(p.Next)
		pages[to[k]-1] = p
	}
	g.pages = pages
	for _, level := range g.levels {
		for k := range level {
			level[k].no = other(level[k].no)
		}
	}
	g.tree.Root = other(g.tree.Root)
}

func (g *grown) held(t *testing.T) *vault.Vault {
	t.Helper()
	return heldPages(t, g.pages...)
}

func (g *grown) fresh(t *testing.T) *vault.Vault {
	t.Helper()
	return freshPages(t, g.pages...)
}

// What the tree must tell, from its pairs alone.

// at is how many keys are below a row.
func (g *grown) at(row []byte) int {
	n, _ := slices.BinarySearchFunc(g.pairs, row, func(x api.Pair, row []byte) int { return bytes.Compare(x.Key, row) })
	return n
}

func (g *grown) get(key []byte) ([]byte, bool) {
	if at := g.at(key); at < len(g.pairs) && bytes.Equal(g.pairs[at].Key, key) {
		return g.pairs[at].Value, true
	}
	return nil, false
}

func (g *grown) list(r api.Range) []api.Pair {
	var l []api.Pair
	for _, x := range g.pairs[g.at(r.Lo):] {
		if !r.Open && bytes.Compare(x.Key, r.Hi) >= 0 {
			break
		}
		l = append(l, x)
	}
	return l
}

// ceil and floor are one pair, or none.
func (g *grown) ceil(row []byte) []api.Pair {
	at := g.at(row)
	return g.pairs[at:min(at+1, len(g.pairs))]
}

func (g *grown) floor(row []byte) []api.Pair {
	at := g.at(append(bytes.Clone(row), 0)) // so many keys are not above the row
	return g.pairs[max(at-1, 0):at]
}

// path is the spot of each level in whose range a row lies, from the root on.
func (g *grown) path(row []byte) []int {
	var l []int
	for _, level := range slices.Backward(g.levels) {
		at, is := slices.BinarySearchFunc(level, row, func(s spot, row []byte) int { return bytes.Compare(s.lo, row) })
		if !is {
			at--
		}
		l = append(l, level[at].no)
	}
	return l
}

// answers: all calls that take a row tell of it what they must.
func (g *grown) answers(t *testing.T, v *vault.Vault, row []byte) {
	t.Helper()
	if len(row) == 0 || len(row) > maxKey {
		gets(t, v, g.tree, row, nil, false, errKey)
	} else {
		value, there := g.get(row)
		gets(t, v, g.tree, row, value, there, 0)
	}
	ceils(t, v, g.tree, row, g.ceil(row)...)
	floors(t, v, g.tree, row, g.floor(row)...)
	leads(t, v, g.tree, row, g.path(row)...)
}

// around is rows at and beside a row.
func around(row []byte) [][]byte {
	l := [][]byte{row, append(bytes.Clone(row), 0), append(bytes.Clone(row), 0xff), append(bytes.Clone(row), make([]byte, maxKey)...)}
	if n := len(row); n > 0 {
		more, less := bytes.Clone(row), bytes.Clone(row)
		more[n-1]++
		less[n-1]--
		l = append(l, row[:n-1], row[:n/2], more, less, append(less, 0xff))
	}
	return l
}

// rows is rows at and beside each key and each separator of a tree, or of some of them,
// and rows that are no keys.
func (g *grown) rows(r *draw.Numbers, most int) [][]byte {
	l := [][]byte{nil, {}, {0}, {0xff}, make([]byte, maxKey), make([]byte, maxKey+1), make([]byte, 1000)}
	for _, n := range []int{maxKey - 1, maxKey, maxKey + 1, 5000} {
		l = append(l, bytes.Repeat([]byte{0xff}, n), bytes.Repeat([]byte{'a'}, n))
	}
	var seeds [][]byte
	for _, x := range g.pairs {
		seeds = append(seeds, x.Key)
	}
	for _, level := range g.levels {
		for _, s := range level {
			seeds = append(seeds, s.lo)
		}
	}
	for len(seeds) > most {
		at := r.Below(len(seeds))
		seeds[at] = seeds[len(seeds)-1]
		seeds = seeds[:len(seeds)-1]
	}
	for _, s := range seeds {
		l = append(l, around(s)...)
	}
	return l
}

// somePairs is n pairs of keys that often begin alike; values are long here and there,
// so that all of them together take no more than so many bytes.
func somePairs(r *draw.Numbers, n, bytesMost int) []api.Pair {
	known := map[string]int{}
	var l []api.Pair
	for len(l) < n {
		k := someKey(r)
		if known[string(k)]++; known[string(k)] > 1 {
			continue
		}
		x := api.Pair{Key: k, Value: r.Bytes(r.Below(4))}
		if r.Below(3) == 0 {
			sizes := []int{0, 1, inline - 1, inline, inline + 1, chunk - 1, chunk, chunk + 1, 2*chunk - 1, 2 * chunk, 2*chunk + 1, maxValue - 1, maxValue}
			if size := sizes[r.Below(len(sizes))]; size <= bytesMost {
				x.Value = r.Bytes(size)
				bytesMost -= size
			}
		}
		l = append(l, x)
	}
	slices.SortFunc(l, func(a, b api.Pair) int { return bytes.Compare(a.Key, b.Key) })
	return l
}

// someKey is a key of few bytes that come often; some are as long as a key may be.
func someKey(r *draw.Numbers) []byte {
	b := make([]byte, []int{1, 2, 3, 4, 5, 6, 7, maxKey - 1, maxKey, maxKey}[r.Below(10)])
	for k := range b {
		b[k] = []byte{0, 1, 'a', 'b', 'c', 'm', 0xfe, 0xff}[r.Below(8)]
		if k < len(b)-6 {
			b[k] = 'a'
		}
	}
	return b
}

// highest is how high a tree of 65536 pages can be.
const highest = 9

// fewest is how many keys a tree of a height must have.
func fewest(height int) int {
	n := 1
	for level := 1; level < height; level++ {
		if level == 1 {
			n = 2
		}
		n *= least
	}
	return n
}

// grownTrees is trees of each height up to one, and of all kinds.
func grownTrees(r *draw.Numbers, height int) []*grown {
	l := []*grown{grow(r, nil, few)}
	for h := 1; h <= height; h++ {
		n := fewest(h)
		l = append(l, grow(r, somePairs(r, n, 20000), few), grow(r, somePairs(r, n, 20000), many))
		for range 4 {
			l = append(l, grow(r, somePairs(r, n+r.Below(2*n+4), 20000), some(r)))
		}
	}
	return l
}
