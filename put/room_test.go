package put_test

import (
	"fmt"
	"testing"

	"coppice/api"
	"coppice/draw"
	"coppice/grove"
	"coppice/put"
	"coppice/walk"
)

// Just as many free pages as P15.5 asks for, and each number below: where it is lacking,
// the model tells, and with so many as it asks for nothing is lacking.
func TestP15_5EachRoom(t *testing.T) {
	t.Parallel()
	r, met := draw.Numbers(171), kinds{}
	for round := range 60 {
		g := grove.Any(&r, 1+round%3)
		c := grove.Setting{Refs: 4, More: 30, Lasting: []int{4, 4, 0, 2}[round%4], Clones: round % 2}
		base, trees := c.Lay(&r, g)
		key, val := g.SomeKey(&r), someValue(&r, 3)
		bound := 2*g.Tree.Height + 1 + pagesOf(val)
		for n := range bound + 1 {
			s := base.Copy()
			s.Leave(&r, n)
			equal(t, "Free", s.Tally(free), n)
			_, did, e := holds(t, vaultOf(t, s), g.Tree, key, val, trees[1:]...)
			if n == bound {
				equal(t, "with room enough", e, 0)
			}
			met.add(g.Tree, did, e)
		}
	}
	met.wants(t, 20, "12 at value", "12 at root", "12 at child", "12 at child's half")
	met.wants(t, 5, "12 at root's half", "12 at new root")
}

// Where each page on the way is full, and lasts or is shared, P15.5 asks for no page too
// many: with one fewer there is no room.
func TestP15_5NoPageTooMany(t *testing.T) {
	t.Parallel()
	r := draw.Numbers(172)
	for h := 1; h <= 5; h++ {
		for _, take := range []grove.Share{grove.Left, grove.Right} {
			for _, c := range []grove.Setting{{Lasting: 4}, {Clones: 1}, {Lasting: 4, Clones: 1}} {
				c.Refs, c.More = 3, 40
				g := grove.Grow(&r, grove.Pairs(&r, grove.Edge(h), 3000), take)
				at := g.Pairs[0].Key
				if way := g.Path(at); len(g.Pages[way[h-1]-1].Items) < most {
					at = g.Pairs[len(g.Pairs)-1].Key
				}
				base, _ := c.Lay(&r, g)
				for _, size := range []int{0, inline + 1, maxValue} {
					bound := 2*h + 1 + pagesOf(value(size))
					s := base.Copy()
					s.Leave(&r, bound-1)
					putsNot(t, vaultOf(t, s), g.Tree, at, value(size), errSpace)
					s = base.Copy()
					s.Leave(&r, bound)
					v := vaultOf(t, s)
					y, is, e := put.Put(v, g.Tree, at, value(size))
					equal(t, "Put", fmt.Sprint(y.Height, y.Items, is, e), fmt.Sprint(h+1, len(g.Pairs), true, api.OK))
					equal(t, "Free", v.Tally(free), 0)
					equal(t, "Check", walk.Check(v, y), 0)
				}
			}
		}
	}
}

// Counts of all pages at Refs - 1, and of each one of them at Refs.
func TestP15_5Refs(t *testing.T) {
	t.Parallel()
	r, met := draw.Numbers(173), map[api.Errno]int{}
	for round := range 24 {
		g := grove.Any(&r, 1+round%3)
		c := grove.Setting{Refs: 2 + round%4, More: 40, Lasting: r.Below(5)}
		base, _ := c.Lay(&r, g)
		v := vaultOf(t, base)
		led := grove.Led(v, g.Tree)
		for n := range led {
			base.Counts[n-1] = c.Refs - 1
		}
		key, val := g.SomeKey(&r), someValue(&r, 1)
		_, _, e := holds(t, vaultOf(t, base), g.Tree, key, val)
		equal(t, "no count is above Refs - 1", e, 0)
		for n := 1; n <= len(base.Counts); n++ {
			if led[n] == 0 || r.Below(len(led)/40+1) > 0 {
				continue
			}
			s := base.Copy()
			s.Counts[n-1] = c.Refs
			_, _, e := holds(t, vaultOf(t, s), g.Tree, key, val)
			met[e]++
		}
	}
	equal(t, "some are refused, others not", met[0] > 50 && met[errRefs] > 50 && len(met) == 2, true)
}
