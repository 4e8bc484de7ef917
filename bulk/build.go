package bulk

import (
	"coppice/api"
	"coppice/blob"
	"coppice/span"
	"coppice/vault"
)

// building is pairs, at least one, whose keys rise, of which a tree is made in a vault.
// Where that fails, what has been done is not undone here: Build does so for the whole.
type building struct {
	v *vault.Vault
	l []api.Pair
}

// spot is a page that was made, and the separator between the leaf ahead of it and the
// first leaf beneath it; there is none ahead of the first page of a level.
type spot struct {
	no int
	lo []byte
}

// tree is the tree of the pairs, made from the leaves up.
func (b building) tree() (api.Tree, api.Errno) {
	var row []spot // the pages of the level that was made last
	height := 0
	// level makes the next level out of so many things, from the left: it hands out to each
	// page how many of them it gets, and lay makes the page of the things from one on up to
	// another one.
	level := func(things int, lay func(from, to int) (spot, api.Errno)) api.Errno {
		var next []spot
		from, pages := 0, pagesFor(things)
		for at := range pages {
			to := from + share(things, pages, at)
			s, e := lay(from, to)
			if e != api.OK {
				return e
			}
			next, from = append(next, s), to
		}
		row = next
		height++
		return api.OK
	}
	e := level(len(b.l), b.leaf)
	for e == api.OK && len(row) > 1 {
		e = level(len(row), func(from, to int) (spot, api.Errno) {
			return b.index(height, row[from:to])
		})
	}
	if e != api.OK {
		return api.Tree{}, e
	}
	return api.Tree{Root: row[0].no, Height: height, Items: len(b.l)}, api.OK
}

// pagesFor is to how many pages so many things are shared out.
func pagesFor(things int) int { return (things + api.Most - 1) / api.Most }

// share is how many of the things that are shared out to pages one of these gets, the
// first one having the number 0.
func share(things, pages, at int) int {
	n := things / pages
	if at < things%pages {
		n++
	}
	return n
}

// leaf makes the leaf of some of the pairs, behind the pages of their values.
func (b building) leaf(from, to int) (spot, api.Errno) {
	p := api.Page{Kind: api.Leaf}
	for at := range to - from {
		x := b.l[from+at]
		i, e := blob.Store(b.v, x.Key, x.Value)
		if e != api.OK {
			return spot{}, e
		}
		p.Items = append(p.Items, i)
	}
	n, e := b.v.Make(p)
	return spot{n, b.separator(from)}, e
}

// separator is the one ahead of the leaf that begins with a pair.
func (b building) separator(at int) []byte {
	if at == 0 {
		return nil
	}
	k, _ := span.Between(b.l[at-1].Key, b.l[at].Key) // there is one, since the keys rise
	return k
}

// index makes the index over pages of the level below.
func (b building) index(level int, beneath []spot) (spot, api.Errno) {
	p := api.Page{Kind: api.Index, Level: level}
	for at := range len(beneath) {
		i := api.Item{Child: beneath[at].no}
		if at > 0 {
			i.Key = beneath[at].lo
		}
		p.Items = append(p.Items, i)
	}
	n, e := b.v.Make(p)
	return spot{n, beneath[0].lo}, e
}
