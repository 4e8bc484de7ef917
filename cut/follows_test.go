package cut_test

import (
	"fmt"
	"slices"
	"testing"

	"coppice/api"
	"coppice/cut"
	"coppice/draw"
	"coppice/grove"
	"coppice/put"
	"coppice/vault"
	"coppice/walk"
)

// order is the pairs of a tree one behind the other.
type order struct {
	what  string
	pairs []api.Pair
}

// orders is the pairs of a tree in several orders.
func orders(r *draw.Numbers, l []api.Pair) []order {
	falling := slices.Clone(l)
	slices.Reverse(falling)
	var mixed, ends []api.Pair
	for _, n := range grove.Shuffle(r, len(l)) {
		mixed = append(mixed, l[n-1])
	}
	for left := slices.Clone(l); len(left) > 0; slices.Reverse(left) {
		ends = append(ends, left[0])
		left = left[1:]
	}
	middle := slices.Clone(ends)
	slices.Reverse(middle)
	return []order{{"rising", l}, {"falling", falling}, {"none", mixed}, {"from both ends", ends}, {"from the middle", middle}}
}

// All keys of a tree that stands alone, in several orders, with a Settle here and there:
// the empty tree is left, and no page has a count.
func TestP16_8AllOfIt(t *testing.T) {
	t.Parallel()
	r := draw.Numbers(281)
	for height := 1; height <= 3; height++ {
		for _, settle := range []int{0, 1, 7} {
			g := someTree(&r, height)
			for _, o := range orders(&r, g.Pairs) {
				what, l := o.what, o.pairs
				s, _ := grove.Setting{Refs: 2, More: 40, Lasting: settle}.Lay(&r, g)
				v, x := vaultOf(t, s), g.Tree
				for k, p := range l {
					y, did, e := holds(t, v, x, p.Key)
					equal(t, what, e == 0 && did.there, true)
					equal(t, what+", Items", y.Items, len(l)-k-1)
					isAll(t, v, y)
					x = y
					if settle > 0 && k%settle == 0 {
						v.Settle()
					}
				}
				equal(t, what+": the tree", x, empty)
				equal(t, what+": pages with a count", v.Tally(fresh)+v.Tally(held), 0)
				v.Settle()
				equal(t, what+": Free", v.Tally(free), v.Len())
			}
		}
	}
}

// The same of greater trees, each cut held against the tree's pairs alone.
func TestP16_8Great(t *testing.T) {
	t.Parallel()
	r := draw.Numbers(282)
	for _, take := range []grove.Share{grove.Few, grove.Many, grove.Some(&r)} {
		g := grove.Grow(&r, grove.Pairs(&r, 3000, 20000), take)
		for _, o := range orders(&r, g.Pairs) {
			what, l := o.what, o.pairs
			s, _ := grove.Setting{Refs: 2, More: 400, Lasting: r.Below(5)}.Lay(&r, g)
			v, x := vaultOf(t, s), g.Tree
			for k, p := range l {
				y, is, e := cut.Cut(v, x, p.Key)
				equal(t, what, fmt.Sprint(is, e, y.Items), fmt.Sprint(true, api.OK, len(l)-k-1))
				x = y
				if k%500 == 250 {
					equal(t, what+": Check", walk.Check(v, x), 0)
					isAll(t, v, x)
				}
				if k%25 == 0 {
					v.Settle()
				}
			}
			equal(t, what+": the tree", x, empty)
			equal(t, what+": pages with a count", v.Tally(fresh)+v.Tally(held), 0)
		}
	}
}

// script is several trees in one vault.
type script struct {
	*vault.Vault
	trees []api.Tree
	met   kinds
}

// others is all trees but one.
func (s *script) others(at int) []api.Tree {
	return slices.Delete(slices.Clone(s.trees), at, at+1)
}

// cut cuts a key out of one of the trees, mostly one that is there.
func (s *script) cut(t *testing.T, r *draw.Numbers, at int) {
	t.Helper()
	x := s.trees[at]
	key := grove.Key(r)
	if l := pairs(t, s.Vault, x); len(l) > 0 && r.Below(6) > 0 {
		key = l[[]int{0, len(l) - 1, r.Below(len(l)), r.Below(len(l))}[r.Below(4)]].Key
	}
	y, did, e := holds(t, s.Vault, x, key, s.others(at)...)
	if s.met.add(x, did, e); e == 0 {
		s.trees[at] = y
	}
}

// put puts a key into one of the trees.
func (s *script) put(r *draw.Numbers, at int) {
	if y, _, e := put.Put(s.Vault, s.trees[at], grove.Key(r), value(r.Below(700))); e == 0 {
		s.trees[at] = y
		s.met["a put"]++
	}
}

// clone and drop are as the document tells them.
func (s *script) clone(at int) {
	x := s.trees[at]
	if x != empty {
		if e := s.Keep(x.Root); e != 0 {
			s.met["a clone refused"]++
			return
		}
	}
	s.trees = append(s.trees, x)
	s.met["a clone"]++
}

func (s *script) drop(t *testing.T, at int) {
	t.Helper()
	if x := s.trees[at]; x != empty {
		equal(t, "Drop", s.Drop(x.Root), 0)
	}
	s.trees = s.others(at)
	s.met["a drop"]++
}

// undone does some steps and undoes them.
func (s *script) undone(t *testing.T, r *draw.Numbers) {
	t.Helper()
	mark, trees, before := s.Mark(), slices.Clone(s.trees), grove.StoreFrom(s.Vault)
	for range 1 + r.Below(4) {
		s.cut(t, r, r.Below(len(s.trees)))
	}
	equal(t, "Undo", s.Undo(mark), true)
	equal(t, "a page that is not as it was", before.Differs(s.Vault), 0)
	s.trees = trees
	s.met["undone"]++
}

// Trees that came from one another: what is cut out of one changes no other one, and each
// count stays how often a page is led to.
func TestP16_4Scripts(t *testing.T) {
	t.Parallel()
	r, met := draw.Numbers(283), kinds{}
	for round := range 96 {
		g := someTree(&r, 1+round%3)
		more := []int{0, 2, 4, 10, 20, 40, 60}[r.Below(7)]
		store, trees := grove.Setting{Refs: 2 + r.Below(3), More: more, Lasting: r.Below(5)}.Lay(&r, g)
		s := &script{vaultOf(t, store), trees, met}
		for range 50 {
			at := r.Below(len(s.trees))
			switch what := r.Below(24); {
			case what <= 1 && len(s.trees) < 4:
				s.clone(at)
			case what == 2 && len(s.trees) > 1:
				s.drop(t, at)
			case what == 3:
				s.Settle()
				met["Settle"]++
			case what == 4:
				s.undone(t, &r)
			case what <= 9:
				s.put(&r, at)
			default:
				s.cut(t, &r, at)
			}
			isAll(t, s.Vault, s.trees...)
		}
	}
	met.wants(t, 20, "a clone", "a drop", "undone", "Settle", "a put", "12 at root", "12 at child", "13 at root", "pages true", "pages false")
	met.wants(t, 5, "a clone refused", "height 1, fell true", "height 2, fell true", "height 3, fell true")
	met.wants(t, 1, "13 at child", "12 at "+rightLends, "12 at "+childTaken)
	for _, how := range []string{rightLends, leftLends, rightTaken, childTaken} {
		met.wants(t, 20, how+", level 0")
		met.wants(t, 2, how+", level 1")
	}
}

// Pages of which a tree has some with another one in common, others not: by trees that
// were cut since they were cloned, each in turn.
func TestP16_4EachInTurn(t *testing.T) {
	t.Parallel()
	r := draw.Numbers(284)
	for _, height := range []int{1, 2, 3} {
		for range 8 {
			g := someTree(&r, height)
			s, trees := grove.Setting{Refs: 4, More: 300, Clones: 2, Lasting: r.Below(5)}.Lay(&r, g)
			v := vaultOf(t, s)
			for k := range 24 {
				at := k % len(trees)
				others := slices.Delete(slices.Clone(trees), at, at+1)
				y, _, e := holds(t, v, trees[at], keyOf(&r, g), others...)
				if equal(t, "Cut", e == 0 || e == errRefs, true); e == 0 {
					trees[at] = y
				}
			}
			isAll(t, v, trees...)
		}
	}
}

// All keys of a tree of which there is a clone: the clone stays as it was.
func TestP16_4AllOfItBesideAClone(t *testing.T) {
	t.Parallel()
	r := draw.Numbers(285)
	for height := 1; height <= 3; height++ {
		g := someTree(&r, height)
		for _, o := range orders(&r, g.Pairs) {
			what, l := o.what, o.pairs
			s, trees := grove.Setting{Refs: 3, More: 200, Clones: 1, Lasting: r.Below(5)}.Lay(&r, g)
			v, x := vaultOf(t, s), g.Tree
			was := seen(t, v, trees[1])
			for _, p := range l {
				y, is, e := cut.Cut(v, x, p.Key)
				equal(t, what, is && e == 0, true)
				stand(t, v, y, trees[1])
				x = y
			}
			equal(t, what+": the tree", x, empty)
			equal(t, what+": the clone", seen(t, v, trees[1]), was)
			isAll(t, v, trees[1])
		}
	}
}

// A cut of what was just put leaves the pairs that there were, and so does a put of what
// was just cut.
func TestP16_3ThereAndBack(t *testing.T) {
	t.Parallel()
	r := draw.Numbers(286)
	for round := range 200 {
		g := someTree(&r, 1+round%3)
		s, trees := grove.Setting{Refs: 5, More: 60, Clones: round % 2, Lasting: r.Below(5)}.Lay(&r, g)
		v := vaultOf(t, s)
		key := g.SomeKey(&r)
		old, isThere := g.Get(key)
		x, e := g.Tree, api.OK
		if !isThere {
			x, _, e = put.Put(v, x, key, value(r.Below(900)))
			equal(t, "Put", e, 0)
		}
		x, _, e = holds(t, v, x, key, trees[1:]...)
		equal(t, "Cut", e, 0)
		if isThere {
			x, _, e = put.Put(v, x, key, old)
			equal(t, "Put", e, 0)
		}
		equal(t, "its pairs", told(pairs(t, v, x)), told(g.Pairs))
		stand(t, v, append([]api.Tree{x}, trees[1:]...)...)
	}
}

// A cut out of a tree that is all its own hands out no page.
func TestP16_6OwnPages(t *testing.T) {
	t.Parallel()
	r := draw.Numbers(287)
	for round := range 160 {
		g := someTree(&r, 1+round%4)
		s, _ := grove.Setting{Refs: 3, More: round % 2 * 9}.Lay(&r, g)
		s.Leave(&r, 0)
		v := vaultOf(t, s)
		key := g.Pairs[r.Below(len(g.Pairs))].Key
		_, did, e := holds(t, v, g.Tree, key)
		equal(t, "Cut", e, 0)
		equal(t, "shadows", did.shadows, 0)
		for n := 1; n <= v.Len(); n++ {
			equal(t, "no page is Fresh that was not", v.State(n) != fresh || s.State(n) == fresh, true)
		}
	}
}

// Where all lasts, or all is shared, each page on the way is shadowed, and each neighbour
// that lends or that is gone on in; no other one.
func TestP16_6OneShadowEach(t *testing.T) {
	t.Parallel()
	r := draw.Numbers(288)
	for round := range 160 {
		g := someTree(&r, 1+round%4)
		c := grove.Setting{Refs: 5, More: 30, Lasting: 4}
		if round%3 == 0 {
			c = grove.Setting{Refs: 5, More: 30, Clones: 1}
		}
		s, trees := c.Lay(&r, g)
		_, did, e := holds(t, vaultOf(t, s), g.Tree, g.Pairs[r.Below(len(g.Pairs))].Key, trees[1:]...)
		equal(t, "Cut", e, 0)
		want := g.Tree.Height
		for _, how := range did.fills {
			if how == rightLends || how == leftLends || how == childTaken {
				want++
			}
		}
		equal(t, "shadows", did.shadows, want)
	}
}

// A vault that lasts: Held pages are shadowed once, and the shadows are the tree's own
// until the next Settle.
func TestP16_6Settle(t *testing.T) {
	v := newVault(t, 9, 9)
	x := grown(t, v, "abcde")
	v.Settle()
	x = cuts(t, v, x, "b", tree(2, 1, 4))
	equal(t, "the old leaf", v.State(1), pending)
	equal(t, "the new leaf", v.State(2), fresh)
	x = cuts(t, v, x, "c", tree(2, 1, 3))
	equal(t, "what lasts", v.Tally(pending), 1)
	v.Settle()
	equal(t, "the old leaf", v.State(1), free)
	x = cuts(t, v, x, "e", tree(1, 1, 2))
	equal(t, "its pairs", told(pairs(t, v, x)), "61= 64= ")
	equal(t, "Settled by cut", v.Undo(0), false)
	x = cuts(t, v, x, "a", tree(1, 1, 1))
	cuts(t, v, x, "d", empty)
	equal(t, "what lasts still", v.Tally(pending), 1)
	equal(t, "all others", v.Tally(free), 8)
}

// A tree that lasts, of two leaves that are joined: what lasts stays until the Settle.
func TestP16_6SettleTwoLeaves(t *testing.T) {
	v := newVault(t, 6, 9)
	x := grown(t, v, "abcdefghi")
	x = cuts(t, v, x, "i", tree(3, 2, 8))
	v.Settle()
	x = cuts(t, v, x, "c", tree(5, 1, 7)) // 4 is the root's shadow, 5 the child's; 2 is taken
	equal(t, "the root", keys(t, v, 5), "a b d e f g h")
	equal(t, "what lasts", v.Tally(pending), 3)
	equal(t, "Free", v.Tally(free), 2)
	v.Settle()
	equal(t, "Free", v.Tally(free), 5)
	cuts(t, v, x, "a", tree(1, 1, 6))
}

// The Height falls where the root is an index of two items whose children are joined, or
// a leaf of one, and nowhere else.
func TestP16_7Height(t *testing.T) {
	t.Parallel()
	r, fell := draw.Numbers(289), map[string]int{}
	for n := 1; n <= 90; n++ {
		for _, take := range []grove.Share{grove.Few, grove.Many, grove.Some(&r)} {
			g := grove.Grow(&r, grove.Pairs(&r, n, 0), take)
			root := g.Pages[g.Tree.Root-1]
			for _, x := range []api.Pair{g.Pairs[0], g.Pairs[n-1], g.Pairs[r.Below(n)]} {
				s, _ := grove.Setting{Refs: 3, More: 30, Lasting: r.Below(5)}.Lay(&r, g)
				y, _, e := cut.Cut(vaultOf(t, s), g.Tree, x.Key)
				equal(t, "Cut", e, 0)
				falls := n == 1
				if root.Kind == indexKind && len(root.Items) == 2 {
					// of the two children neither has more than the least
					falls = len(g.Pages[root.Items[0].Child-1].Items)+len(g.Pages[root.Items[1].Child-1].Items) == 2*least
				}
				equal(t, fmt.Sprintf("%d keys: the Height that is gone", n), g.Tree.Height-y.Height, map[bool]int{true: 1}[falls])
				fell[fmt.Sprint(root.Kind, falls)]++
			}
		}
	}
	equal(t, "all of them", fell["1 true"] > 5 && fell["1 false"] > 5 && fell["2 true"] > 10 && fell["2 false"] > 100, true)
}

// The heights of a tree whose keys are cut by falling ones, as it was grown by rising ones.
func TestP16_7HeightsInARow(t *testing.T) {
	v := newVault(t, 60, 2)
	x := empty
	for k := range 80 {
		x, _, _ = put.Put(v, x, []byte{byte(k)}, nil)
	}
	heights := map[int]int{}
	for k := 79; k >= 0; k-- {
		heights[x.Height]++
		y, is, e := cut.Cut(v, x, []byte{byte(k)})
		equal(t, "Cut", is && e == 0, true)
		equal(t, "it falls by at most one", x.Height-y.Height == 0 || x.Height-y.Height == 1, true)
		x = y
	}
	equal(t, "the tree", x, empty)
	// All leaves but the last have 4 keys; where it has no more either, a cut joins it with
	// the one ahead of it, and leaves 7. So two leaves are left till there are 8 keys. Of
	// 8 leaves, under two indexes of 4, there are 35 keys, when the last two were joined;
	// and the next cut joins the indexes.
	equal(t, "how long it had each height", fmt.Sprint(heights), "map[1:7 2:27 3:46]")
}

// At each height that a tree can have, in vaults of up to 65536 pages.
func TestEveryHeight(t *testing.T) {
	t.Parallel()
	r := draw.Numbers(290)
	for h := 1; h <= grove.Highest; h++ {
		for round, g := range []*grove.Grown{
			grove.Grow(&r, grove.Pairs(&r, grove.Fewest(h), 20000), grove.Few),
			grove.Grow(&r, grove.Pairs(&r, leanKeys(h), 20000), lean(h%2 == 0)),
		} {
			equal(t, "Height", g.Tree.Height, h)
			s, trees := grove.Setting{Refs: 3, More: 40, Clones: (h + round) % 2, Lasting: r.Below(5)}.Lay(&r, g)
			v := vaultOf(t, s)
			x := trees[0]
			for range 3 {
				key := keyOf(&r, g)
				want, wantTree, did, wantE := modelCut(grove.StoreFrom(v), x, key)
				y, is, e := cut.Cut(v, x, key)
				equal(t, "Cut", fmt.Sprint(y, is, e), fmt.Sprint(wantTree, did.there && wantE == 0, wantE))
				equal(t, "a page that is another one", want.Differs(v), 0)
				if e != 0 {
					continue
				}
				_, there, _ := walk.Get(v, y, key)
				equal(t, "Get", there, false)
				equal(t, "Check", walk.Check(v, y), 0)
				x = y
			}
			equal(t, "the clone", walk.Check(v, trees[len(trees)-1]) == 0 || len(trees) == 1, true)
		}
	}
}
