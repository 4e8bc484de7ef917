// Package grove gives the tests of several layers trees that were made by hand, with
// what they must tell; and a store of pages that does to them what the document says,
// slow and plain.
package grove

import (
	"bytes"

	"coppice/api"
	"coppice/draw"
)

// Grown is a tree that was made by hand, with what it must tell.
type Grown struct {
	Tree   api.Tree
	Pairs  []api.Pair // rising
	Pages  []api.Page // from page 1 on; the zero Page: it is free
	Levels [][]Spot   // the leaves, the indexes above them, and so on, each from the left on
}

// Spot is a leaf or an index; its keys lie from Lo on, and below the Lo of the next one
// of its level.
type Spot struct {
	No int
	Lo []byte
}

// Share is how many items a page takes, if it can be so; so many are left of those of its
// level.
type Share func(left, of int) int

// Few makes trees as high as they can be.
func Few(_, _ int) int { return api.Least }

// Many makes trees as low as they can be.
func Many(_, _ int) int { return api.Most }

// Some makes trees of any kind.
func Some(r *draw.Numbers) Share {
	return func(_, _ int) int { return api.Least + r.Below(api.Most-api.Least+1) }
}

// Left makes trees whose first page of each level alone is full, if there are Edge keys.
func Left(left, of int) int {
	if left == of {
		return api.Most
	}
	return api.Least
}

// Right makes trees whose last page of each level alone is full, if there are Edge keys.
func Right(left, _ int) int {
	if left == api.Most {
		return api.Most
	}
	return api.Least
}

// Sized makes trees whose pages have so many items each, from the left on: first the
// leaves, then the indexes above them, and so on; the root may be left out.
func Sized(levels ...[]int) Share {
	return func(left, of int) int {
		for _, sizes := range levels {
			if sum(sizes) != of {
				continue
			}
			for k, size := range sizes {
				if sum(sizes[k:]) == left {
					return size
				}
			}
		}
		return api.Most
	}
}

func sum(l []int) int {
	n := 0
	for _, x := range l {
		n += x
	}
	return n
}

// Edge is how many keys a tree of a height has, of whose pages one of each level is full,
// the root too, and all others have as few items as can be.
func Edge(height int) int {
	n := 1
	for range height {
		n = api.Least*n + api.Least
	}
	return n
}

// Grow makes a tree of these pairs, on pages whose numbers follow no rule; some pages
// are free. Separators are any keys that may stand there.
func Grow(r *draw.Numbers, pairs []api.Pair, take Share) *Grown {
	g := &Grown{Pairs: pairs}
	if len(pairs) == 0 {
		g.Pages = make([]api.Page, 1+r.Below(3))
		return g
	}
	level := g.leaves(r, take)
	g.Levels = [][]Spot{level}
	for len(level) > 1 {
		level = g.indexes(level, take)
		g.Levels = append(g.Levels, level)
	}
	g.Tree = api.Tree{Root: level[0].No, Height: len(g.Levels), Items: len(pairs)}
	g.renumber(r)
	return g
}

// groups is how many of n items the pages of a level take.
func groups(n int, take Share) []int {
	var l []int
	of := n
	for n > api.Most || n == api.Most && take(n, of) == api.Least {
		k := min(take(n, of), n-api.Least)
		l = append(l, k)
		n -= k
	}
	return append(l, n)
}

func (g *Grown) lay(p api.Page) int {
	g.Pages = append(g.Pages, p)
	return len(g.Pages)
}

func (g *Grown) leaves(r *draw.Numbers, take Share) []Spot {
	var level []Spot
	at := 0
	for _, n := range groups(len(g.Pairs), take) {
		p := api.Page{Kind: api.Leaf}
		for _, x := range g.Pairs[at : at+n] {
			p.Items = append(p.Items, g.item(x))
		}
		var lo []byte
		if at > 0 {
			lo = between(r, g.Pairs[at-1].Key, g.Pairs[at].Key)
		}
		level = append(level, Spot{g.lay(p), lo})
		at += n
	}
	return level
}

// item is the item of a pair; the pages of its value lie in no order.
func (g *Grown) item(x api.Pair) api.Item {
	i := api.Item{Key: x.Key, Value: x.Value, Size: len(x.Value)}
	if i.Size <= api.Inline {
		return i
	}
	i.Value = nil
	for to := i.Size; to > 0; {
		at := (to - 1) / api.Chunk * api.Chunk
		i.Child = g.lay(api.Page{Kind: api.Blob, Data: x.Value[at:to], Next: i.Child})
		to = at
	}
	return i
}

func (g *Grown) indexes(beneath []Spot, take Share) []Spot {
	var level []Spot
	at := 0
	for _, n := range groups(len(beneath), take) {
		p := api.Page{Kind: api.Index, Level: len(g.Levels)}
		for k, child := range beneath[at : at+n] {
			i := api.Item{Key: child.Lo, Child: child.No}
			if k == 0 {
				i.Key = nil
			}
			p.Items = append(p.Items, i)
		}
		level = append(level, Spot{g.lay(p), beneath[at].Lo})
		at += n
	}
	return level
}

// between is a key that is above a and not above b, both keys, a below b.
func between(r *draw.Numbers, a, b []byte) []byte {
	k := b
	switch r.Below(3) {
	case 0: // the shortest beginning of b that is above a
		for n := len(b); n > 0 && bytes.Compare(b[:n], a) > 0; n-- {
			k = b[:n]
		}
	case 1: // what comes next behind a
		if len(a) < api.MaxKey {
			k = append(bytes.Clone(a), 0)
		}
	}
	return bytes.Clone(k)
}

// Shuffle is the numbers from 1 to n in no order.
func Shuffle(r *draw.Numbers, n int) []int {
	l := make([]int, n)
	for k := range l {
		l[k] = k + 1
		with := r.Below(k + 1)
		l[k], l[with] = l[with], l[k]
	}
	return l
}

// renumber gives all pages other numbers.
func (g *Grown) renumber(r *draw.Numbers) {
	to := Shuffle(r, len(g.Pages)+r.Below(4))
	other := func(n int) int {
		if n == 0 {
			return 0
		}
		return to[n-1]
	}
	pages := make([]api.Page, len(to))
	for k, p := range g.Pages {
		for at := range p.Items {
			p.Items[at].Child = other(p.Items[at].Child)
		}
		p.Next = other(p.Next)
		pages[to[k]-1] = p
	}
	g.Pages = pages
	for _, level := range g.Levels {
		for k := range level {
			level[k].No = other(level[k].No)
		}
	}
	g.Tree.Root = other(g.Tree.Root)
}

// Highest is how high a tree of 65536 pages can be.
const Highest = 9

// Fewest is how many keys a tree of a height must have.
func Fewest(height int) int {
	n := 1
	for level := 1; level < height; level++ {
		if level == 1 {
			n = 2
		}
		n *= api.Least
	}
	return n
}

// Trees is trees of each height up to one, and of all kinds.
func Trees(r *draw.Numbers, height int) []*Grown {
	l := []*Grown{Grow(r, nil, Few)}
	for h := 1; h <= height; h++ {
		n := Fewest(h)
		l = append(l, Grow(r, Pairs(r, n, 20000), Few), Grow(r, Pairs(r, n, 20000), Many))
		for range 4 {
			l = append(l, Grow(r, Pairs(r, n+r.Below(2*n+4), 20000), Some(r)))
		}
	}
	return l
}

// Any is a tree of a height, of any kind: with as few items as can be, and full along
// one edge or all over, too.
func Any(r *draw.Numbers, height int) *Grown {
	few := Fewest(height)
	full := 1
	for range height {
		full *= api.Most
	}
	switch r.Below(6) {
	case 0:
		return Grow(r, Pairs(r, few, 5000), Few)
	case 1:
		return Grow(r, Pairs(r, Edge(height), 5000), Left)
	case 2:
		return Grow(r, Pairs(r, Edge(height), 5000), Right)
	case 3:
		if full < 1000 {
			return Grow(r, Pairs(r, full, 5000), Many)
		}
	}
	return Grow(r, Pairs(r, few+r.Below(few), 5000), Some(r))
}
