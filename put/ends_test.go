package put_test

import (
	"fmt"
	"testing"

	"coppice/api"
	"coppice/draw"
	"coppice/grove"
	"coppice/put"
	"coppice/view"
)

// Of trees that do not stand nothing is promised but that the call ends (R1).

// Trees of any numbers, in a vault with a tree of its own.
func TestR1AnyTree(t *testing.T) {
	r := draw.Numbers(191)
	odd := []int{lowest, -1 << 32, -12, -1, 0, 1, 2, 3, 4, 5, 9, 11, 12, 13, 255, 256, 1 << 16, 1<<32 + 1, greatest}
	for _, g := range []*grove.Grown{grove.Any(&r, 1), grove.Any(&r, 2), grove.Any(&r, 3)} {
		c := grove.Setting{Refs: 3, More: 20, Lasting: 2}
		s, _ := c.Lay(&r, g)
		v := vaultOf(t, s)
		mark := v.Mark()
		for _, root := range append(odd, g.Tree.Root) {
			for _, height := range append(odd, g.Tree.Height) {
				for _, items := range []int{lowest, -1, 0, 1, 9, greatest} {
					for _, size := range []int{0, 500} {
						put.Put(v, api.Tree{Root: root, Height: height, Items: items}, g.SomeKey(&r), value(size))
						v.Undo(mark)
					}
				}
			}
		}
	}
}

// Without a vault there is no page.
func TestR1NoVault(t *testing.T) {
	for _, x := range []api.Tree{empty, tree(1, 1, 1), tree(3, 2, 9), tree(0, 0, 1), tree(0, 1, 0), tree(-1, -1, -1)} {
		for _, size := range []int{0, inline, inline + 1, maxValue} {
			y, is, e := put.Put(nil, x, []byte("a"), value(size))
			equal(t, "Put", fmt.Sprint(y, is, e), fmt.Sprint(empty, false, api.ErrSpace))
		}
		_, _, e := put.Put(nil, x, nil, value(maxValue+1))
		equal(t, "no key", e, errKey)
		_, _, e = put.Put(nil, x, []byte("a"), value(maxValue+1))
		equal(t, "no value", e, errValue)
	}
}

// Pages that lead anywhere, in rings too, with counts of any kind.
func TestR1AnyPages(t *testing.T) {
	t.Parallel()
	r, met := draw.Numbers(192), map[api.Errno]int{}
	for range 6000 {
		n := 1 + r.Below(10)
		pages := make([]api.Page, n)
		for k := range pages {
			if r.Below(6) > 0 {
				pages[k] = grove.AnyPage(&r, n)
			}
		}
		c := grove.Settings(&r)
		s, _ := c.Lay(&r, &grove.Grown{Pages: pages})
		v := vaultOf(t, s)
		mark, seen := v.Mark(), view.Vault(v)
		for root := 1; root <= n; root++ {
			p := s.On[root-1]
			x := tree(root, p.Level+1, 1+r.Below(40))
			for range 3 {
				_, _, e := put.Put(v, x, []byte{byte(r.Below(140))}, someValue(&r, 2))
				met[e]++
				v.Undo(mark)
			}
		}
		equal(t, "behind Undo", view.Vault(v), seen)
	}
	equal(t, "some were done, others not", met[0] > 1000 && len(met) >= 5, true)
}

// A tree that is sound, but for one page of it, at each place.
func TestR1OnePageIsAnother(t *testing.T) {
	t.Parallel()
	r := draw.Numbers(193)
	for round := range 60 {
		g := grove.Any(&r, 1+round%3)
		c := grove.Settings(&r)
		s, _ := c.Lay(&r, g)
		for k := range g.Pages {
			if k%(1+len(g.Pages)/20) > 0 {
				continue
			}
			other := s.Copy()
			other.On[k] = grove.AnyPage(&r, len(g.Pages))
			if r.Below(4) == 0 {
				other.Counts[k] = 0
			}
			v := vaultOf(t, other)
			mark := v.Mark()
			for range 4 {
				put.Put(v, g.Tree, g.SomeKey(&r), someValue(&r, 2))
				v.Undo(mark)
			}
		}
	}
}
