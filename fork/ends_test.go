package fork_test

import (
	"fmt"
	"testing"

	"coppice/api"
	"coppice/draw"
	"coppice/fork"
	"coppice/grove"
	"coppice/vault"
	"coppice/view"
)

// Of trees that do not stand nothing is promised but that the calls end (R1); and with an
// error every other result is the zero value of its type (R2).

// asked is all calls, of a tree and of it beside another one; their errors.
func asked(t *testing.T, v *vault.Vault, x, y api.Tree) []api.Errno {
	t.Helper()
	a, e1 := fork.Counts(v, x, y)
	b, e2 := fork.Reach(v, x)
	c, e3 := fork.Only(v, x, y)
	d, e4 := fork.Freed(v, x)
	if e1 != 0 && len(a) > 0 || e2 != 0 && len(b) > 0 || e3 != 0 && len(c) > 0 || e4 != 0 && d != 0 {
		t.Fatalf("beside an error: %v %v %v %d", a, b, c, d)
	}
	l := []api.Errno{e1, e2, e3, e4}
	if v == nil {
		return l
	}
	mark := v.Mark()
	z, e5 := fork.Clone(v, x)
	if e5 != 0 && z != empty {
		t.Fatalf("beside an error: %v", z)
	}
	v.Undo(mark)
	e6 := fork.Drop(v, x)
	v.Undo(mark)
	return append(l, e5, e6)
}

// Trees of any numbers, in a vault with a tree of its own.
func TestR1AnyTree(t *testing.T) {
	r := draw.Numbers(351)
	odd := []int{lowest, -1 << 32, -12, -1, 0, 1, 2, 3, 4, 5, 9, 11, 12, 13, 255, 256, 1 << 16, 1<<32 + 1, greatest}
	for height := 1; height <= 3; height++ {
		g := grove.Any(&r, height)
		s, _ := grove.Setting{Refs: 3, More: 3, Lasting: 2}.Lay(&r, g)
		v := vaultOf(t, s)
		seen := view.Vault(v)
		for _, root := range append(odd, g.Tree.Root, v.Len(), v.Len()+1) {
			for _, height := range []int{lowest, -1, 0, 1, 2, 12, greatest} {
				for _, items := range []int{lowest, 0, 1, greatest} {
					asked(t, v, tree(root, height, items), g.Tree)
					asked(t, v, g.Tree, tree(root, height, items))
				}
			}
			if v.Count(root) == 0 && root != 0 {
				for _, e := range asked(t, v, tree(root, 1, 1), empty) {
					equal(t, "a root that is not there", e, errPage)
				}
			}
		}
		equal(t, "behind it", view.Vault(v), seen)
	}
}

// Without a vault there is no page; the empty tree has none.
func TestR1NoVault(t *testing.T) {
	for _, x := range []api.Tree{tree(1, 1, 1), tree(3, 2, 9), tree(-1, -1, -1), tree(lowest, 1, 1), tree(greatest, 12, 1)} {
		for _, e := range asked(t, nil, x, empty) {
			equal(t, "no vault", e, errPage)
		}
		asked(t, nil, empty, x)
		y, e := fork.Clone(nil, x)
		equal(t, "Clone", fmt.Sprint(y, e), fmt.Sprint(empty, api.ErrPage))
		equal(t, "Drop", fork.Drop(nil, x), errPage)
	}
	for _, e := range asked(t, nil, empty, empty) {
		equal(t, "the empty tree", e, 0)
	}
	y, e := fork.Clone(nil, empty)
	equal(t, "Clone", fmt.Sprint(y, e), fmt.Sprint(empty, api.OK))
	equal(t, "Drop", fork.Drop(nil, empty), 0)
	l, e := fork.Counts(nil)
	equal(t, "Counts", len(l) == 0 && e == 0, true)
}

// Pages that lead anywhere, in rings too, with counts of any kind. What Freed tells and
// what Drop does fit each other even there.
func TestR1AnyPages(t *testing.T) {
	t.Parallel()
	r, met := draw.Numbers(352), map[string]int{}
	for range 15000 {
		n := 1 + r.Below(10)
		pages := make([]api.Page, n)
		for k := range pages {
			if r.Below(6) > 0 {
				pages[k] = grove.AnyPage(&r, n)
			}
		}
		s, _ := grove.Settings(&r).Lay(&r, &grove.Grown{Pages: pages})
		v := vaultOf(t, s)
		mark, seen := v.Mark(), view.Vault(v)
		for root := 1; root <= n; root++ {
			x := tree(root, s.On[root-1].Level+1, 1+r.Below(40))
			asked(t, v, x, tree(1+r.Below(n), 1, 1))
			told, e := fork.Freed(v, x)
			counted := v.Tally(fresh) + v.Tally(held)
			equal(t, "Drop", fork.Drop(v, x), e)
			equal(t, "what is given back", counted-v.Tally(fresh)-v.Tally(held), told)
			met[fmt.Sprint(e, " ", min(told, 3))]++
			v.Undo(mark)
		}
		equal(t, "behind Undo", view.Vault(v), seen)
	}
	for _, what := range []string{"error 0 0", "error 0 1", "error 0 2", "error 0 3", "error 15 0"} {
		if met[what] < 20 {
			t.Errorf("%q was met %d times", what, met[what])
		}
	}
}

// Pages in a ring, and one that leads to itself, with counts up to Refs.
func TestR1Rings(t *testing.T) {
	for c := 1; c <= 5; c++ {
		v := lay(t, 5, 0, []int{c, c, c}, B(9, 2), B(9, 1), B(9, 3))
		for root := 1; root <= 3; root++ {
			unchanged(t, v, func() {
				asked(t, v, tree(root, 1, 1), tree(4-root, 1, 1))
			})
		}
		equalLists(t, "Counts", counts(t, v, tree(1, 1, 1), tree(3, 1, 1)), []int{2, 1, 2})
		equalLists(t, "Reach", reach(t, v, tree(2, 1, 1)), []int{1, 2})
	}
}
