package cut_test

import (
	"fmt"
	"testing"

	"coppice/api"
	"coppice/cut"
	"coppice/draw"
	"coppice/grove"
	"coppice/walk"
)

// Just as many free pages as P16.5 asks for, and each number below: where it is lacking,
// the model tells, and with so many as it asks for nothing is lacking.
func TestP16_5EachRoom(t *testing.T) {
	t.Parallel()
	r, met := draw.Numbers(271), kinds{}
	for round := range 90 {
		g := someTree(&r, 1+round%3)
		c := grove.Setting{Refs: 4, More: 30, Lasting: []int{4, 4, 0, 2}[round%4], Clones: round % 2}
		base, trees := c.Lay(&r, g)
		key := keyOf(&r, g)
		bound := 2*g.Tree.Height - 1
		for n := range bound + 1 {
			s := base.Copy()
			s.Leave(&r, n)
			equal(t, "Free", s.Tally(free), n)
			_, did, e := holds(t, vaultOf(t, s), g.Tree, key, trees[1:]...)
			if n == bound {
				equal(t, "with room enough", e, 0)
			}
			met.add(g.Tree, did, e)
		}
	}
	met.wants(t, 20, "12 at root", "12 at child")
	met.wants(t, 3, "12 at "+rightLends, "12 at "+leftLends, "12 at "+childTaken)
}

// Where each child on the way has the least, and a neighbour that lends, and all lasts or
// is shared, P16.5 asks for no page too many: with one fewer there is no room.
func TestP16_5NoPageTooMany(t *testing.T) {
	t.Parallel()
	r := draw.Numbers(272)
	for h := 1; h <= 5; h++ {
		for _, fromLeft := range []bool{true, false} {
			for _, c := range []grove.Setting{{Lasting: 4}, {Clones: 1}, {Lasting: 4, Clones: 1}, {Shared: 4}} {
				c.Refs, c.More = 4, 40
				g := grove.Grow(&r, grove.Pairs(&r, leanKeys(h), 3000), lean(fromLeft))
				key := g.Pairs[0].Key
				if !fromLeft {
					key = g.Pairs[len(g.Pairs)-1].Key
				}
				base, _ := c.Lay(&r, g)
				if c.Shared > 0 { // of a page that is led to once more each is: none is at Refs then
					for n := range grove.Led(vaultOf(t, base), g.Tree) {
						base.Counts[n-1] = 2
					}
				}
				s := base.Copy()
				s.Leave(&r, 2*h-2)
				cutsNot(t, vaultOf(t, s), g.Tree, key, errSpace)
				s = base.Copy()
				s.Leave(&r, 2*h-1)
				v := vaultOf(t, s)
				y, is, e := cut.Cut(v, g.Tree, key)
				equal(t, "Cut", fmt.Sprint(y.Height, y.Items, is, e), fmt.Sprint(h, len(g.Pairs)-1, true, api.OK))
				equal(t, "Free", v.Tally(free), 0)
				equal(t, "Check", walk.Check(v, y), 0)
			}
		}
	}
}

// What is taken on the way is free again behind it, and may be handed out further down.
func TestP16_5TakenIsHandedOut(t *testing.T) {
	t.Parallel()
	r := draw.Numbers(273)
	for h := 2; h <= 5; h++ {
		g := grove.Grow(&r, grove.Pairs(&r, grove.Fewest(h), 0), grove.Few)
		for _, c := range []grove.Setting{{Lasting: 4}, {Clones: 1}} {
			c.Refs, c.More = 3, 40
			base, trees := c.Lay(&r, g)
			last := g.Pairs[len(g.Pairs)-1].Key
			// Each child is shadowed, and so is its left neighbour, and then the child is
			// taken: one page stays for each level, and one more is needed for a while, at
			// first two, the root's.
			for n := 0; n <= 2*h-1; n++ {
				s := base.Copy()
				s.Leave(&r, n)
				_, did, e := holds(t, vaultOf(t, s), g.Tree, last, trees[1:]...)
				equal(t, "the least room", e == 0, n >= max(3, h))
				equal(t, "falls", e != 0 || did.fell, true)
			}
		}
	}
}

// Counts of all pages at Refs - 1, and of each one of them at Refs.
func TestP16_5Refs(t *testing.T) {
	t.Parallel()
	r, met := draw.Numbers(274), kinds{}
	for round := range 72 {
		g := someTree(&r, 1+round%3)
		c := grove.Setting{Refs: 2 + round%4, More: 40, Lasting: r.Below(5)}
		base, _ := c.Lay(&r, g)
		led := grove.Led(vaultOf(t, base), g.Tree)
		for n := range led {
			base.Counts[n-1] = c.Refs - 1
		}
		last := len(g.Pairs) - 1
		key := g.Pairs[[]int{0, last, r.Below(last + 1)}[r.Below(3)]].Key
		_, _, e := holds(t, vaultOf(t, base), g.Tree, key)
		equal(t, "no count is above Refs - 1", e, 0)
		for n := 1; n <= len(base.Counts); n++ {
			if led[n] == 0 || r.Below(len(led)/40+1) > 0 {
				continue
			}
			s := base.Copy()
			s.Counts[n-1] = c.Refs
			_, did, e := holds(t, vaultOf(t, s), g.Tree, key)
			met.add(g.Tree, did, e)
		}
	}
	met.wants(t, 20, "13 at root", "13 at child")
	met.wants(t, 2, "13 at "+rightLends, "13 at "+leftLends, "13 at "+childTaken, "13 at taking: "+rightTaken)
	met.wants(t, 20, "height 1, fell false", "height 2, fell false", "height 3, fell false")
}
