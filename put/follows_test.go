package put_test

import (
	"bytes"
	"fmt"
	"slices"
	"strings"
	"testing"

	"coppice/api"
	"coppice/draw"
	"coppice/grove"
	"coppice/put"
	"coppice/vault"
	"coppice/walk"
)

// Rows of puts that begin with the empty tree, by rising keys, by falling ones and in no
// order; with a Settle here and there.
func TestP15_3Rows(t *testing.T) {
	t.Parallel()
	r := draw.Numbers(161)
	orders := map[string]func(l []api.Pair) []api.Pair{
		"rising":  func(l []api.Pair) []api.Pair { return l },
		"falling": func(l []api.Pair) []api.Pair { slices.Reverse(l); return l },
		"none": func(l []api.Pair) []api.Pair {
			var mixed []api.Pair
			for _, n := range grove.Shuffle(&r, len(l)) {
				mixed = append(mixed, l[n-1])
			}
			return mixed
		},
		"from both ends": func(l []api.Pair) []api.Pair {
			var mixed []api.Pair
			for len(l) > 0 {
				mixed = append(mixed, l[0])
				l = l[1:]
				slices.Reverse(l)
			}
			return mixed
		},
	}
	for _, what := range []string{"rising", "falling", "none", "from both ends"} {
		for _, settle := range []int{0, 1, 7} {
			v, x := newVault(t, 260, 2), empty
			for k, p := range orders[what](grove.Pairs(&r, 120, 8000)) {
				y, did, e := holds(t, v, x, p.Key, p.Value)
				equal(t, what, e, 0)
				equal(t, what+", there", did.there, false)
				equal(t, what+", Items", y.Items, k+1)
				x = y
				if settle > 0 && k%settle == 0 {
					v.Settle()
				}
			}
			isAll(t, v, x)
		}
	}
}

// isAll: the counts are right, if there is nothing in the vault but these trees.
func isAll(t *testing.T, v *vault.Vault, trees ...api.Tree) {
	t.Helper()
	led := grove.Led(v, trees...)
	for n := 1; n <= v.Len(); n++ {
		if v.Count(n) != led[n] {
			t.Fatalf("page %d is led to %d times, its count is %d", n, led[n], v.Count(n))
		}
	}
}

// script is several trees in one vault.
type script struct {
	*vault.Vault
	trees []api.Tree
	met   kinds
}

// others is all trees but one.
func (s *script) others(at int) []api.Tree {
	return slices.Delete(slices.Clone(s.trees), at, at+1)
}

// put puts something into one of the trees, mostly near what is there.
func (s *script) put(t *testing.T, r *draw.Numbers, at int) {
	t.Helper()
	x := s.trees[at]
	key := grove.Key(r)
	if l := pairs(t, s.Vault, x); len(l) > 0 && r.Below(3) > 0 {
		near := grove.Around(l[r.Below(len(l))].Key)
		if key = near[r.Below(len(near))]; len(key) == 0 || len(key) > maxKey {
			key = l[0].Key
		}
	}
	y, did, e := holds(t, s.Vault, x, key, someValue(r, 2), s.others(at)...)
	if s.met.add(x, did, e); e == 0 {
		s.trees[at] = y
	}
}

// clone and drop are as the document tells them.
func (s *script) clone(t *testing.T, at int) {
	t.Helper()
	x := s.trees[at]
	if x != empty {
		if e := s.Keep(x.Root); e != 0 {
			s.met["a clone refused"]++
			return
		}
	}
	s.trees = append(s.trees, x)
	s.met["a clone"]++
}

func (s *script) drop(t *testing.T, at int) {
	t.Helper()
	if x := s.trees[at]; x != empty {
		equal(t, "Drop", s.Drop(x.Root), 0)
	}
	s.trees = s.others(at)
	s.met["a drop"]++
}

// undone does some steps and undoes them.
func (s *script) undone(t *testing.T, r *draw.Numbers) {
	t.Helper()
	mark, trees, before := s.Mark(), slices.Clone(s.trees), grove.StoreFrom(s.Vault)
	for range 1 + r.Below(4) {
		s.put(t, r, r.Below(len(s.trees)))
	}
	equal(t, "Undo", s.Undo(mark), true)
	equal(t, "a page that is not as it was", before.Differs(s.Vault), 0)
	s.trees = trees
	s.met["undone"]++
}

// Trees that came from one another: what is put into one changes no other one, and each
// count stays how often a page is led to.
func TestP15_4Scripts(t *testing.T) {
	t.Parallel()
	r, met := draw.Numbers(162), kinds{}
	for round := range 48 {
		g := grove.Grow(&r, nil, grove.Few)
		if round%4 > 0 {
			g = grove.Any(&r, round%4)
		}
		store, trees := grove.Setting{Refs: 2 + r.Below(3), More: 10 + r.Below(60), Lasting: r.Below(5)}.Lay(&r, g)
		s := &script{vaultOf(t, store), trees, met}
		for range 40 {
			at := r.Below(len(s.trees))
			switch what := r.Below(24); {
			case what <= 1 && len(s.trees) < 4:
				s.clone(t, at)
			case what == 2 && len(s.trees) > 1:
				s.drop(t, at)
			case what == 3:
				s.Settle()
				met["Settle"]++
			case what == 4:
				s.undone(t, &r)
			default:
				s.put(t, &r, at)
			}
			isAll(t, s.Vault, s.trees...)
		}
	}
	met.wants(t, 20, "a clone", "a drop", "undone", "Settle", "12 at value", "12 at child", "13 at root")
	met.wants(t, 5, "a clone refused", "13 at child", "height 1, grew true", "height 2, grew true", "height 3, grew false")
	met.wants(t, 20, "there true, split false, pages from true to true", "there true, split false, pages from true to false")
}

// Pages of which a tree has some with another one in common, others not: by trees that
// were put into since they were cloned, each in turn.
func TestP15_4EachInTurn(t *testing.T) {
	t.Parallel()
	r := draw.Numbers(163)
	for _, height := range []int{1, 2, 3} {
		for range 6 {
			g := grove.Any(&r, height)
			c := grove.Setting{Refs: 4, More: 300, Clones: 2, Lasting: r.Below(5)}
			s, trees := c.Lay(&r, g)
			v := vaultOf(t, s)
			for k := range 24 {
				at := k % len(trees)
				others := slices.Delete(slices.Clone(trees), at, at+1)
				y, _, e := holds(t, v, trees[at], g.SomeKey(&r), someValue(&r, 1), others...)
				if equal(t, "Put", e == 0 || e == errRefs, true); e == 0 {
					trees[at] = y
				}
			}
		}
	}
}

// A put into a tree that is all its own makes no shadow: the pages on the way to a key
// are those that they were, but for a new root and for right halves.
func TestP15_6OwnPages(t *testing.T) {
	t.Parallel()
	r := draw.Numbers(164)
	for round := range 120 {
		g := grove.Any(&r, 1+round%4)
		c := grove.Setting{Refs: 3, More: 12}
		s, _ := c.Lay(&r, g)
		v := vaultOf(t, s)
		key, val := g.SomeKey(&r), someValue(&r, 1)
		way, _ := walk.Path(v, g.Tree, key)
		y, did, e := holds(t, v, g.Tree, key, val)
		equal(t, "Put", e, 0)
		equal(t, "shadows", did.shadows, 0)
		then, _ := walk.Path(v, y, key)
		then = then[y.Height-g.Tree.Height:]
		for k, n := range way {
			if wasFull := len(g.Pages[n-1].Items) == most; then[k] != n && !wasFull {
				t.Fatalf("the way was %v, and is %v", way, then)
			}
			equal(t, "each page on the way is there still", v.Count(n), 1)
		}
		equal(t, "what lasts", v.Tally(held)+v.Tally(pending), s.Tally(pending))
	}
}

// Where all lasts, or all is shared, each page on the way is shadowed, and no other one.
func TestP15_6OneShadowEach(t *testing.T) {
	t.Parallel()
	r := draw.Numbers(165)
	for round := range 120 {
		g := grove.Any(&r, 1+round%4)
		c := grove.Setting{Refs: 5, More: 30, Lasting: 4}
		if round%3 == 0 {
			c = grove.Setting{Refs: 5, More: 30, Clones: 1}
		}
		s, trees := c.Lay(&r, g)
		_, did, e := holds(t, vaultOf(t, s), g.Tree, g.SomeKey(&r), nil, trees[1:]...)
		equal(t, "Put", e, 0)
		equal(t, "shadows", did.shadows, g.Tree.Height)
	}
}

// The Height grows where the root is full, also for a key that is there, and nowhere else.
func TestP15_7Height(t *testing.T) {
	r := draw.Numbers(166)
	grew := map[bool]int{}
	for n := 1; n <= 70; n++ {
		for _, take := range []grove.Share{grove.Few, grove.Many, grove.Some(&r)} {
			g := grove.Grow(&r, grove.Pairs(&r, n, 0), take)
			c := grove.Setting{Refs: 3, More: 30}
			s, _ := c.Lay(&r, g)
			isFull := len(g.Pages[g.Tree.Root-1].Items) == most
			for _, key := range [][]byte{g.Pairs[r.Below(n)].Key, g.SomeKey(&r)} {
				y, _, e := put.Put(vaultOf(t, s), g.Tree, key, []byte("v"))
				equal(t, "Put", e, 0)
				equal(t, fmt.Sprintf("%d keys: is it higher", n), y.Height == g.Tree.Height+1, isFull)
				equal(t, fmt.Sprintf("%d keys: is it as high", n), y.Height == g.Tree.Height, !isFull)
				grew[isFull]++
			}
		}
	}
	equal(t, "both", grew[true] > 20 && grew[false] > 20, true)
	v := newVault(t, 60, 2)
	x := empty
	heights := ""
	for k := range 80 {
		x, _, _ = put.Put(v, x, []byte{byte(k)}, nil)
		heights += fmt.Sprint(x.Height)
	}
	// The first leaf has 8 keys, then 4; and so has each further one, when key 4m + 1
	// makes the leaf m. Behind key 33 the root has 8 leaves, so that key 34 splits it.
	equal(t, "heights of rising keys", heights, strings.Repeat("1", 8)+strings.Repeat("2", 25)+strings.Repeat("3", 47))
}

// At each height that a tree can have, in vaults of up to 65536 pages.
func TestEveryHeight(t *testing.T) {
	t.Parallel()
	r := draw.Numbers(167)
	for h := 1; h <= grove.Highest; h++ {
		g := grove.Grow(&r, grove.Pairs(&r, grove.Fewest(h), 20000), grove.Few)
		equal(t, "Height", g.Tree.Height, h)
		c := grove.Setting{Refs: 3, More: 40, Clones: h % 2, Lasting: r.Below(5)}
		s, trees := c.Lay(&r, g)
		v := vaultOf(t, s)
		x := trees[0]
		for range 3 {
			key, val := g.SomeKey(&r), someValue(&r, 1)
			want, wantTree, did, wantE := modelPut(grove.StoreFrom(v), x, key, val)
			y, is, e := put.Put(v, x, key, val)
			equal(t, "Put", fmt.Sprint(y, is, e), fmt.Sprint(wantTree, did.there, wantE))
			equal(t, "a page that is another one", want.Differs(v), 0)
			if e != 0 {
				continue
			}
			got, there, _ := walk.Get(v, y, key)
			equal(t, "Get", there && bytes.Equal(got, val), true)
			equal(t, "Check", walk.Check(v, y), 0)
			x = y
		}
		equal(t, "the clone", walk.Check(v, trees[len(trees)-1]) == 0 || len(trees) == 1, true)
	}
}
