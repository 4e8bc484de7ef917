package diff_test

import (
	"fmt"
	"slices"
	"testing"

	"coppice/api"
	"coppice/diff"
	"coppice/draw"
	"coppice/grove"
	"coppice/vault"
	"coppice/view"
)

// Of trees that do not stand nothing is promised but that the calls end (R1); and with an
// error every other result is the zero value of its type (R2).

// asked is all calls of two trees that need not stand, what they do undone behind them; the
// errors of List, Read and Apply.
func asked(t *testing.T, v *vault.Vault, x, y api.Tree, l []api.Change, r api.Range) [3]api.Errno {
	t.Helper()
	some, e1 := diff.List(v, x, y, r)
	pages, e2 := diff.Read(v, x, y)
	for range diff.Walk(v, x, y) {
	}
	mark := 0
	if v != nil {
		mark = v.Mark()
	}
	z, e3 := diff.Apply(v, x, l)
	if e1 != 0 && len(some) > 0 || e2 != 0 && len(pages) > 0 || e3 != 0 && z != empty {
		t.Fatalf("beside an error: %d changes, %v, %v", len(some), pages, z)
	}
	if v != nil {
		equal(t, "Mark behind an error", e3 == 0 || v.Mark() == mark, true)
		v.Undo(mark)
	}
	return [3]api.Errno{e1, e2, e3}
}

// Without a vault there is no page.
func TestR1NoVault(t *testing.T) {
	for _, c := range []struct {
		l    []api.Change
		want api.Errno
	}{
		{nil, 0}, {[]api.Change{change(9, "", "", "")}, errKind}, {[]api.Change{change(added, "", "", "")}, errKey},
		{[]api.Change{change(added, "a", "", string(value(maxValue+1)))}, errValue}, {[]api.Change{change(removed, "a", "", "")}, errStale},
		{[]api.Change{change(added, "a", "", "")}, errSpace},
	} {
		x, e := diff.Apply(nil, empty, c.l)
		equal(t, "Apply", fmt.Sprint(x, e), fmt.Sprint(empty, c.want))
	}
	equal(t, "of two empty trees", asked(t, nil, empty, empty, nil, allKeys), [3]api.Errno{})
	odd := []api.Tree{empty, tree(1, 1, 1), tree(3, 2, 9), tree(-1, -1, -1), tree(0, 0, 1), tree(1, greatest, 1), tree(1, lowest, 1)}
	for _, x := range odd {
		for _, y := range odd {
			asked(t, nil, x, y, []api.Change{change(added, "a", "", "")}, allKeys)
		}
	}
	l, e := diff.List(nil, odd[1], empty, allKeys)
	equal(t, "List", fmt.Sprint(len(l), e), fmt.Sprint(0, api.Errno(errPage)))
	pages, e := diff.Read(nil, empty, odd[1])
	equal(t, "Read", fmt.Sprint(len(pages), e), fmt.Sprint(0, api.Errno(errPage)))
}

// Trees of any numbers, in a vault with a tree of its own.
func TestR1AnyTree(t *testing.T) {
	t.Parallel()
	r := draw.Numbers(671)
	odd := []int{lowest, -1 << 32, -12, -1, 0, 1, 2, 3, 4, 5, 9, 11, 12, 13, 255, 256, 1 << 16, 1<<32 + 1, greatest}
	for height := 1; height <= 3; height++ {
		g := grove.Any(&r, height)
		s, _ := grove.Setting{Refs: 3, More: 20, Lasting: 2}.Lay(&r, g)
		v := vaultOf(t, s)
		seen := view.Vault(v)
		for _, root := range append(odd, g.Tree.Root, v.Len(), v.Len()+1) {
			for _, height := range append(odd, g.Tree.Height) {
				for _, items := range []int{lowest, 0, 1, greatest} {
					x := tree(root, height, items)
					l := scriptFor(&r, g, g.Pairs)
					l.more(2)
					asked(t, v, x, g.Tree, l.l, api.Range{Lo: g.SomeKey(&r), Open: true})
					asked(t, v, g.Tree, x, nil, allKeys)
					asked(t, v, x, x, nil, api.Range{Hi: g.SomeKey(&r)})
				}
			}
		}
		equal(t, "behind it", view.Vault(v), seen)
	}
}

// Pages that lead anywhere, in rings too, with counts of any kind.
func TestR1AnyPages(t *testing.T) {
	t.Parallel()
	r, errors := draw.Numbers(672), [3]map[api.Errno]int{{}, {}, {}}
	for range 2000 {
		n := 1 + r.Below(10)
		pages := make([]api.Page, n)
		for k := range pages {
			if r.Below(6) > 0 {
				pages[k] = grove.AnyPage(&r, n)
			}
		}
		s, _ := grove.Settings(&r).Lay(&r, &grove.Grown{Pages: pages})
		v := vaultOf(t, s)
		seen := view.Vault(v)
		for root := 1; root <= n; root++ {
			x, other := tree(root, s.On[root-1].Level+1, 1+r.Below(40)), 1+r.Below(n)
			y := []api.Tree{empty, x, tree(other, s.On[other-1].Level+1, 9), tree(other, 1+r.Below(4), 9)}[r.Below(4)]
			by := api.Range{Lo: []byte{byte(r.Below(140))}, Hi: []byte{byte(r.Below(140))}, Open: r.Below(2) == 0}
			l := []api.Change{change(added, string(byte(r.Below(140))), "", "1")}
			for k, e := range asked(t, v, x, y, l, by) {
				errors[k][e]++
			}
		}
		equal(t, "behind Undo", view.Vault(v), seen)
	}
	for k, what := range []string{"List", "Read", "Apply"} {
		equal(t, what+": some with errors, others without", errors[k][0] > 200 && errors[k][errPage] > 200, true)
	}
}

// Two trees that are sound, but for one page, at each place.
func TestR1OnePageIsAnother(t *testing.T) {
	t.Parallel()
	r, errors := draw.Numbers(673), map[api.Errno]int{}
	for round := range 60 {
		c := someCouple(t, &r, 1+round%3)
		s := grove.StoreFrom(c.v)
		for _, n := range read(t, c.v, c.a, c.b) {
			if n%(1+len(s.On)/40) > 0 {
				continue
			}
			other := s.Copy()
			switch r.Below(3) {
			case 0:
				other.Counts[n-1] = 0
			case 1:
				other.On[n-1] = other.Page(1 + slices.IndexFunc(s.Counts, func(c int) bool { return c > 0 }))
			default:
				other.On[n-1] = grove.AnyPage(&r, len(s.On))
			}
			v := vaultOf(t, other)
			l := scriptFor(&r, c.grown, c.grown.Pairs)
			l.more(3)
			for _, by := range append(c.ranges(&r, 2), allKeys) {
				for _, e := range asked(t, v, c.a, c.b, l.l, by) {
					errors[e]++
				}
			}
		}
	}
	equal(t, "some with errors, others without", errors[0] > 100 && errors[errPage] > 100, true)
}

// A root that is of another level than the Height says, or no leaf and no index, is an
// error, also beneath an index.
func TestR1AnotherLevel(t *testing.T) {
	leaf := api.Page{Kind: leafKind, Items: []api.Item{{Key: []byte("a")}, {Key: []byte("b"), Size: 40, Child: 2}}}
	index := func(level, x, y int) api.Page {
		return api.Page{Kind: indexKind, Level: level, Items: []api.Item{{Child: x}, {Key: []byte("m"), Child: y}}}
	}
	v := handMade(t, leaf, B(40, 0), index(1, 1, 2), index(2, 3, 1), index(2, 1, 3))
	for n, height := range []int{1, 0, 2, 3, 3} {
		for h := range 14 {
			x := tree(n+1, h, 2)
			l, e := diff.List(v, x, empty, allKeys)
			pages, f := diff.Read(v, empty, x)
			if n == 0 && h == height {
				equal(t, "a leaf", fmt.Sprint(len(l), e, pages, f), fmt.Sprint(2, api.OK, []int{1, 2}, api.OK))
				continue
			}
			equal(t, fmt.Sprint(x), fmt.Sprint(len(l), e, len(pages), f), fmt.Sprint(0, api.Errno(errPage), 0, api.Errno(errPage)))
		}
	}
}

// A tree that would have no end: each index leads to one page from all of its items, and
// indexes lead to themselves.
func TestR1Rings(t *testing.T) {
	index := func(level, child int) api.Page {
		p := api.Page{Kind: indexKind, Level: level}
		for k := range most {
			p.Items = append(p.Items, api.Item{Key: []byte{byte(k)}[:min(k, 1)], Child: child})
		}
		return p
	}
	pages := []api.Page{{Kind: leafKind, Items: []api.Item{{Key: []byte("a"), Size: maxValue, Child: 14}}}}
	for level := 1; level <= 11; level++ {
		pages = append(pages, index(level, level))
	}
	pages = append(pages, index(11, 13), B(chunk, 14))
	v := handMade(t, pages...)
	var trees []api.Tree
	for root := range pages {
		for height := range 14 {
			trees = append(trees, tree(root+1, height, 1))
		}
	}
	for _, x := range trees {
		for _, y := range []api.Tree{empty, x, trees[len(trees)/2], tree(12, 12, 1)} {
			for _, by := range []api.Range{allKeys, span("\x03", "\x05"), span("a", "b")} {
				asked(t, v, x, y, []api.Change{change(removed, "a", "", "")}, by)
			}
		}
	}
}
