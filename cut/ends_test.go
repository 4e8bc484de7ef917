package cut_test

import (
	"fmt"
	"testing"

	"coppice/api"
	"coppice/cut"
	"coppice/draw"
	"coppice/grove"
	"coppice/view"
)

// Of trees that do not stand nothing is promised but that the call ends (R1).

// Trees of any numbers, in a vault with a tree of its own.
func TestR1AnyTree(t *testing.T) {
	r := draw.Numbers(301)
	odd := []int{lowest, -1 << 32, -12, -1, 0, 1, 2, 3, 4, 5, 9, 11, 12, 13, 255, 256, 1 << 16, 1<<32 + 1, greatest}
	for _, g := range []*grove.Grown{someTree(&r, 1), someTree(&r, 2), someTree(&r, 3)} {
		s, _ := grove.Setting{Refs: 3, More: 20, Lasting: 2}.Lay(&r, g)
		v := vaultOf(t, s)
		mark := v.Mark()
		for _, root := range append(odd, g.Tree.Root) {
			for _, height := range append(odd, g.Tree.Height) {
				for _, items := range []int{lowest, -1, 0, 1, 9, greatest} {
					for range 2 {
						cut.Cut(v, api.Tree{Root: root, Height: height, Items: items}, keyOf(&r, g))
						v.Undo(mark)
					}
				}
			}
		}
	}
}

// Without a vault there is no page; in the empty tree there is no key.
func TestR1NoVault(t *testing.T) {
	for _, x := range []api.Tree{tree(1, 1, 1), tree(3, 2, 9), tree(0, 1, 0), tree(1, 12, 1)} {
		y, is, e := cut.Cut(nil, x, []byte("a"))
		equal(t, "Cut", fmt.Sprint(y, is, e), fmt.Sprint(empty, false, api.ErrPage))
	}
	for _, x := range []api.Tree{empty, tree(1, 1, 1), tree(-1, -1, -1), tree(0, 0, 1), tree(1, greatest, 1), tree(1, lowest, 1)} {
		cut.Cut(nil, x, []byte("a"))
		_, _, e := cut.Cut(nil, x, nil)
		equal(t, "no key", e, errKey)
	}
	y, is, e := cut.Cut(nil, empty, []byte("a"))
	equal(t, "the empty tree", fmt.Sprint(y, is, e), fmt.Sprint(empty, false, api.OK))
}

// keyOn is a key that a page has, if it has any.
func keyOn(r *draw.Numbers, p api.Page) []byte {
	if n := len(p.Items); n > 0 {
		if k := p.Items[r.Below(n)].Key; len(k) > 0 {
			return k
		}
	}
	return []byte{byte(r.Below(140))}
}

// Pages that lead anywhere, in rings too, with counts of any kind.
func TestR1AnyPages(t *testing.T) {
	t.Parallel()
	r, met := draw.Numbers(302), map[string]int{}
	for range 20000 {
		n := 1 + r.Below(10)
		pages := make([]api.Page, n)
		for k := range pages {
			if r.Below(6) > 0 {
				pages[k] = grove.AnyPage(&r, n)
			}
		}
		s, _ := grove.Settings(&r).Lay(&r, &grove.Grown{Pages: pages})
		v := vaultOf(t, s)
		mark, seen := v.Mark(), view.Vault(v)
		for root := 1; root <= n; root++ {
			x := tree(root, s.On[root-1].Level+1, 1+r.Below(40))
			for range 3 {
				_, is, e := cut.Cut(v, x, keyOn(&r, s.On[r.Below(n)]))
				if x.Height > 1 {
					met[fmt.Sprint(is, e)]++
				}
				v.Undo(mark)
			}
		}
		equal(t, "behind Undo", view.Vault(v), seen)
	}
	equal(t, "some were done, others not", met["true error 0"] > 10 && len(met) >= 5, true)
}

// A tree that is sound, but for one page of it, or for two, at each place: another page,
// none, or one of a neighbour's.
func TestR1OnePageIsAnother(t *testing.T) {
	t.Parallel()
	r, met := draw.Numbers(303), map[string]int{}
	for round := range 90 {
		g := someTree(&r, 1+round%3)
		s, _ := grove.Settings(&r).Lay(&r, g)
		for k := range g.Pages {
			if k%(1+len(g.Pages)/20) > 0 {
				continue
			}
			other := s.Copy()
			at := r.Below(len(g.Pages))
			switch what := r.Below(5); {
			case what == 0 && g.Pages[at].Kind != 0:
				other.On[k] = other.Page(at + 1)
			case what == 1:
				other.Counts[k] = 0
			case what == 2: // an item leads elsewhere
				p := other.Page(k + 1)
				for i := range p.Items {
					if p.Items[i].Child != 0 && r.Below(2) == 0 {
						p.Items[i].Child = at + 1
					}
				}
				other.On[k] = p
			case what == 3 && len(other.On[k].Items) > 2: // it has fewer items than it may have
				p := other.Page(k + 1)
				p.Items = p.Items[:2]
				other.On[k] = p
			default:
				other.On[k] = grove.AnyPage(&r, len(g.Pages))
			}
			v := vaultOf(t, other)
			mark := v.Mark()
			for range 6 {
				_, is, e := cut.Cut(v, g.Tree, keyOf(&r, g))
				met[fmt.Sprint(is, e)]++
				v.Undo(mark)
			}
		}
	}
	equal(t, "some were done, others not", met["true error 0"] > 10 && len(met) >= 5, true)
}

// Pages that do not fit their neighbours: each pair of them under one index, with a key
// of the first or of the second one.
func TestR1Neighbours(t *testing.T) {
	t.Parallel()
	r, met := draw.Numbers(304), map[string]int{}
	for range 30000 {
		pages := []api.Page{grove.AnyPage(&r, 6), grove.AnyPage(&r, 6), {}, grove.AnyPage(&r, 6), grove.AnyPage(&r, 6)}
		level := 1 + pages[r.Below(2)].Level
		index := api.Page{Kind: indexKind, Level: level, Items: []api.Item{{Child: 1}, {Key: []byte{byte(1 + r.Below(130))}, Child: 1 + r.Below(2)}}}
		if r.Below(3) == 0 {
			index.Items = append(index.Items, api.Item{Key: []byte{200}, Child: 1 + r.Below(5)})
		}
		pages[2] = index
		s, _ := grove.Settings(&r).Lay(&r, &grove.Grown{Pages: pages})
		v := vaultOf(t, s)
		mark := v.Mark()
		for range 4 {
			_, is, e := cut.Cut(v, tree(3, level+1, 9), keyOn(&r, pages[[]int{0, 1, 3, 4}[r.Below(4)]]))
			met[fmt.Sprint(is, e)]++
			v.Undo(mark)
		}
	}
	equal(t, "some were done, others not", met["true error 0"] > 10 && len(met) >= 6, true)
}
