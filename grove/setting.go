package grove

import (
	"coppice/api"
	"coppice/draw"
	"coppice/page"
)

// Setting is how a tree lies in a store.
type Setting struct {
	Refs, Clones int
	More         int // free pages behind those of the tree
	Lasting      int // of 4 pages so many last
	Shared       int // of 4 pages so many are led to from elsewhere too
}

// Settings is settings of all kinds; of each, too few free pages too.
func Settings(r *draw.Numbers) Setting {
	return Setting{
		Refs: 2 + r.Below(3), Clones: r.Below(3) / 2, More: []int{0, 1, 2, 3, 4, 6, 9, 30, 30, 30, 30, 30}[r.Below(12)],
		Lasting: r.Below(5), Shared: []int{0, 0, 0, 1, 2, 4}[r.Below(6)],
	}
}

// Lay is a store with the tree, which stands there, and with clones of it, all of which
// stand there together.
func (c Setting) Lay(r *draw.Numbers, g *Grown) (*Store, []api.Tree) {
	s := StoreOf(c.Refs, g.Pages, c.More)
	trees := []api.Tree{g.Tree}
	for range c.Clones {
		trees = append(trees, g.Tree)
		if g.Tree.Root != 0 {
			s.Counts[g.Tree.Root-1]++
		}
	}
	for k, p := range s.On {
		if p.Kind != 0 {
			s.Lasts[k] = has(r, c.Lasting)
			s.Counts[k] = min(c.Refs, s.Counts[k]+has(r, c.Shared)*(1+r.Below(2)))
		} else if r.Below(5) == 0 { // something lasts there to which nothing leads any more
			s.On[k], s.Lasts[k] = api.Page{Kind: api.Blob, Data: Value(9)}, 1
		}
	}
	return s, trees
}

// has is 1 so many times of 4, else 0.
func has(r *draw.Numbers, times int) int {
	if r.Below(4) < times {
		return 1
	}
	return 0
}

// Leave takes free pages of a store away, from any place, until so many are left.
func (s *Store) Leave(r *draw.Numbers, n int) {
	for _, page := range Shuffle(r, len(s.Counts)) {
		if s.Tally(api.Free) == n {
			return
		}
		if s.State(page) == api.Free {
			s.On[page-1] = api.Page{Kind: api.Blob, Data: Value(5)}
			s.Counts[page-1] = page % 2
			s.Lasts[page-1] = 1 - page%2*r.Below(2)
		}
	}
}

// Value is n bytes in which no two pages' parts are alike.
func Value(n int) []byte {
	b := make([]byte, n)
	for i := range b {
		b[i] = byte(i*7 + i/251 + n)
	}
	return b
}

// AnyPage is a page that page.Check takes; it leads anywhere.
func AnyPage(r *draw.Numbers, pages int) api.Page {
	for {
		p := api.Page{Kind: api.Leaf + r.Below(3)}
		switch n := 1 + r.Below(api.Most); {
		case p.Kind == api.Blob:
			p.Data, p.Next = Value(1+r.Below(api.Chunk)), r.Below(pages+2)
		case r.Below(3) == 0:
			n = api.Most
			fallthrough
		default:
			for k := range n {
				i := api.Item{Key: []byte{byte(16*k + r.Below(16))}}
				if p.Kind == api.Index {
					p.Level = 1 + r.Below(3)
					i.Child = 1 + r.Below(pages+1)
					if k == 0 {
						i.Key = nil
					}
				} else if r.Below(3) == 0 {
					i.Size, i.Child = api.Inline+1+r.Below(1000), 1+r.Below(pages+1)
				}
				p.Items = append(p.Items, i)
			}
		}
		if page.Check(p) == api.OK {
			return p
		}
	}
}
