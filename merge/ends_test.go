package merge_test

import (
	"bytes"
	"fmt"
	"maps"
	"slices"
	"testing"

	"coppice/api"
	"coppice/draw"
	"coppice/grove"
	"coppice/merge"
	"coppice/vault"
	"coppice/view"
)

// Of trees that do not stand nothing is promised but that the calls end (R1); and with an
// error every other result is the zero value of its type (R2).

// asked is both calls of three trees that need not stand, what they do undone behind them;
// the errors of Conflicts and Merge.
func asked(t *testing.T, v *vault.Vault, base, ours, theirs api.Tree, rule int) [2]api.Errno {
	t.Helper()
	l, e := merge.Conflicts(v, base, ours, theirs)
	mark := 0
	if v != nil {
		mark = v.Mark()
	}
	x, some, f := merge.Merge(v, base, ours, theirs, rule)
	if e != 0 && len(l) > 0 || f != 0 && (x != empty || f != errMerge && len(some) > 0) {
		t.Fatalf("beside an error: %d conflicts, %d conflicts, %v", len(l), len(some), x)
	}
	if v != nil {
		equal(t, "Mark behind an error", f == 0 || v.Mark() == mark, true)
		v.Undo(mark)
	}
	return [2]api.Errno{e, f}
}

// Without a vault there is no page.
func TestR1NoVault(t *testing.T) {
	for _, rule := range rules() {
		equal(t, "of empty trees", asked(t, nil, empty, empty, empty, rule), [2]api.Errno{})
	}
	equal(t, "a rule that is none", asked(t, nil, empty, empty, empty, 3), [2]api.Errno{0, errArg})
	odd := []api.Tree{empty, tree(1, 1, 1), tree(3, 2, 9), tree(-1, -1, -1), tree(0, 0, 1), tree(1, greatest, 1), tree(1, lowest, 1)}
	for _, x := range odd {
		for _, y := range odd {
			for _, z := range odd {
				for rule := -1; rule <= 3; rule++ {
					e := asked(t, nil, x, y, z, rule)
					equal(t, "ErrArg", e[1] == errArg, rule < 0 || rule > 2)
				}
			}
		}
	}
	equal(t, "base", asked(t, nil, odd[1], empty, empty, 0), [2]api.Errno{errPage, errPage})
	equal(t, "ours", asked(t, nil, empty, odd[1], empty, 1), [2]api.Errno{errPage, errPage})
	equal(t, "theirs", asked(t, nil, empty, empty, odd[1], 2), [2]api.Errno{errPage, errPage})
}

// Trees of any numbers, in a vault with a tree of its own.
func TestR1AnyTree(t *testing.T) {
	t.Parallel()
	r := draw.Numbers(771)
	odd := []int{lowest, -1 << 32, -12, -1, 0, 1, 2, 3, 5, 9, 12, 13, 255, 1 << 16, 1<<32 + 1, greatest}
	for height := 1; height <= 3; height++ {
		g := grove.Any(&r, height)
		s, _ := grove.Setting{Refs: 3, More: 20, Lasting: 2}.Lay(&r, g)
		v := vaultOf(t, s)
		before := view.Vault(v)
		for _, root := range append(odd, g.Tree.Root, v.Len(), v.Len()+1) {
			for _, height := range append(odd, g.Tree.Height) {
				for _, items := range []int{lowest, 1, greatest} {
					x, rule := tree(root, height, items), r.Below(3)
					asked(t, v, x, g.Tree, empty, rule)
					asked(t, v, g.Tree, x, empty, rule)
					asked(t, v, empty, g.Tree, x, rule)
					asked(t, v, x, x, g.Tree, rule)
				}
			}
		}
		equal(t, "behind it", view.Vault(v), before)
	}
}

// Pages that lead anywhere, in rings too, with counts of any kind.
func TestR1AnyPages(t *testing.T) {
	t.Parallel()
	r, errors := draw.Numbers(772), [2]map[api.Errno]int{{}, {}}
	for range 3000 {
		n := 1 + r.Below(10)
		pages := make([]api.Page, n)
		for k := range pages {
			if r.Below(6) > 0 {
				pages[k] = somePage(&r, n)
			}
		}
		s, _ := grove.Settings(&r).Lay(&r, &grove.Grown{Pages: pages})
		v := vaultOf(t, s)
		before := view.Vault(v)
		some := func() api.Tree {
			root := 1 + r.Below(n)
			if at := slices.IndexFunc(s.On[root-1:], isPlain); at >= 0 && r.Below(4) > 0 {
				root += at
			}
			if r.Below(6) == 0 {
				return empty
			}
			return tree(root, s.On[root-1].Level+1, 1+r.Below(40))
		}
		for range n {
			for k, e := range asked(t, v, some(), some(), some(), r.Below(3)) {
				errors[k][e]++
			}
		}
		equal(t, "behind Undo", view.Vault(v), before)
	}
	equal(t, "Conflicts: some with errors, others without", errors[0][0] > 200 && errors[0][errPage] > 200, true)
	equal(t, "Merge: some with errors, others without", errors[1][0] > 100 && errors[1][errPage] > 200 && errors[1][errMerge] > 20 && errors[1][errSpace] > 20, true)
}

// somePage is a page that leads anywhere, or a leaf of short values.
func somePage(r *draw.Numbers, pages int) api.Page {
	p := grove.AnyPage(r, pages)
	if p.Kind == leafKind && r.Below(3) > 0 {
		for k := range p.Items {
			value := bytes.Repeat([]byte("v"), r.Below(3))
			p.Items[k] = api.Item{Key: []byte{byte(16*k + r.Below(3))}, Value: value, Size: len(value)}
		}
	}
	return p
}

// isPlain: is it a leaf whose values are all short?
func isPlain(p api.Page) bool { return p.Kind == leafKind && len(grove.LeadsTo(p)) == 0 }

// Three trees that stand, but for one page.
func TestR1OnePageIsAnother(t *testing.T) {
	t.Parallel()
	r, errors := draw.Numbers(773), map[api.Errno]int{}
	for round := range 60 {
		c := someTrio(t, &r, 1+round%3)
		s := grove.StoreFrom(c.v)
		led := slices.Sorted(maps.Keys(grove.Led(c.v, c.base, c.ours, c.theirs)))
		for _, n := range led {
			if r.Below(1+len(s.On)/20) > 0 {
				continue
			}
			other := s.Copy()
			switch r.Below(3) {
			case 0:
				other.Counts[n-1] = 0
			case 1:
				other.On[n-1] = other.Page(led[r.Below(len(led))])
			default:
				other.On[n-1] = grove.AnyPage(&r, len(s.On))
			}
			x := c.among(t, other)
			for _, rule := range rules() {
				for _, e := range asked(t, x.v, c.base, c.ours, c.theirs, rule) {
					errors[e]++
				}
			}
		}
	}
	equal(t, "some with errors, others without", errors[0] > 100 && errors[errPage] > 100, true)
}

// Trees that would have no end: each index leads to one page from all of its items, and
// indexes lead to themselves.
func TestR1Rings(t *testing.T) {
	index := func(level, child int) api.Page {
		p := api.Page{Kind: indexKind, Level: level}
		for k := range most {
			p.Items = append(p.Items, api.Item{Key: []byte{byte(k)}[:min(k, 1)], Child: child})
		}
		return p
	}
	pages := []api.Page{{Kind: leafKind, Items: []api.Item{{Key: []byte("a"), Size: maxValue, Child: 14}}}}
	for level := 1; level <= 11; level++ {
		pages = append(pages, index(level, level))
	}
	pages = append(pages, index(11, 13), api.Page{Kind: blobKind, Data: value(chunk), Next: 14})
	pages = append(pages, api.Page{Kind: leafKind, Items: []api.Item{{Key: []byte("\x02")}, {Key: []byte("a")}, {Key: []byte("b")}}})
	v := vaultOf(t, grove.StoreOf(9, pages, 2))
	trees := []api.Tree{empty, tree(15, 1, 3)}
	for root := range pages {
		for _, height := range []int{1, pages[root].Level + 1, 12} {
			trees = append(trees, tree(root+1, height, 1))
		}
	}
	r := draw.Numbers(774)
	for _, x := range trees {
		for _, y := range trees {
			asked(t, v, x, y, trees[r.Below(len(trees))], r.Below(3))
			asked(t, v, empty, x, y, r.Below(3))
		}
	}
	equal(t, "a tree and its own ring", fmt.Sprint(asked(t, v, empty, empty, tree(13, 12, 1), 0)), fmt.Sprint([2]api.Errno{errPage, errPage}))
}
