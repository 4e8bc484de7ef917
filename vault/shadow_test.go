package vault_test

import (
	"testing"

	"coppice/api"
	"coppice/vault"
)

// A page that is its own shadow: nothing is done.
func TestP11_6ItsOwnShadow(t *testing.T) {
	v := newVault(t, 3, 2)
	makes(t, v, L("a"), 1, 0)
	makes(t, v, N(1, 9), 2, 0)
	unchanged(t, v, func() {
		shadows(t, v, 1, 1, 0)
		shadows(t, v, 2, 2, 0)
	})
	makes(t, v, B(0), 3, 0)
	unchanged(t, v, func() { shadows(t, v, 2, 2, 0) }) // no page is Free, and none is needed
	keeps(t, v, 2, 0)
	unchanged(t, v, func() { shadows(t, v, 2, 0, errSpace) })
	drops(t, v, 2, 0)
	unchanged(t, v, func() { shadows(t, v, 2, 2, 0) })
}

// A page that is Held and whose count is 1: what it led to is led to by its shadow
// in its place, there or not, at the greatest count or not.
func TestP11_6HeldWithTheCount1(t *testing.T) {
	for _, p := range []api.Page{L("a"), N(1, 3), N(3, 3), N(2, 9), V(1, 2, 3), V(3), B(0), B(3), B(1), B(2)} {
		v := load(t, 3, []int{1, 0, 3}, p, api.Page{}, L("z"))
		shadows(t, v, 1, 2, 0)
		equalLists(t, "Counts", v.Counts(), []int{0, 1, 3})
		equalLists(t, "states", states(v), []int{pending, fresh, held})
		equal(t, "Mark", v.Mark(), 1)
		reads(t, v, 1, api.Page{}, errPage)
		reads(t, v, 2, p, 0)
		equal(t, "what lasts", listed(v.Pages(pending)), "1: "+text(p)+"; ")
		unchanged(t, v, func() {
			shadows(t, v, 2, 2, 0)
			shadows(t, v, 1, 0, errPage)
			shadows(t, v, 3, 0, errSpace)
		})
		writes(t, v, 2, L("new"), 0)
		equal(t, "what lasts", listed(v.Pages(pending)), "1: "+text(p)+"; ")
		equal(t, "Undo(0)", v.Undo(0), true)
		equalLists(t, "Counts", v.Counts(), []int{1, 0, 3})
		reads(t, v, 1, p, 0)
	}
}

// A page whose count is above 1, Fresh and Held: what it leads to has one more, for
// each time that it does.
func TestP11_6CountAbove1(t *testing.T) {
	for _, c := range []struct {
		p     api.Page
		wantA []int // the counts behind one Shadow, and behind two
		wantB []int
	}{
		{L("a"), []int{2, 1, 2, 1, 0, 0}, []int{1, 1, 2, 1, 1, 0}},
		{N(2, 3), []int{2, 2, 3, 1, 0, 0}, []int{1, 3, 4, 1, 1, 0}},
		{N(3, 2), []int{2, 2, 3, 1, 0, 0}, []int{1, 3, 4, 1, 1, 0}},
		{N(2, 2), []int{2, 3, 2, 1, 0, 0}, []int{1, 5, 2, 1, 1, 0}},
		{N(2, 3, 2), []int{2, 3, 3, 1, 0, 0}, []int{1, 5, 4, 1, 1, 0}},
		{V(), []int{2, 1, 2, 1, 0, 0}, []int{1, 1, 2, 1, 1, 0}},
		{V(2, 2), []int{2, 3, 2, 1, 0, 0}, []int{1, 5, 2, 1, 1, 0}},
		{B(2), []int{2, 2, 2, 1, 0, 0}, []int{1, 3, 2, 1, 1, 0}},
		{B(1), []int{3, 1, 2, 1, 0, 0}, []int{3, 1, 2, 1, 1, 0}}, // it leads to itself
		{B(4), []int{2, 1, 2, 2, 0, 0}, []int{1, 1, 2, 3, 1, 0}}, // it leads to its shadow to be
	} {
		v := load(t, 9, []int{3, 1, 2, 0, 0, 0}, c.p, L("x"), L("y"))
		fresh := newVault(t, 6, 9)
		makes(t, fresh, c.p, 1, 0)
		keeps(t, fresh, 1, 0)
		keeps(t, fresh, 1, 0)
		makes(t, fresh, L("x"), 2, 0)
		makes(t, fresh, L("y"), 3, 0)
		keeps(t, fresh, 3, 0)
		for _, v := range []*vault.Vault{v, fresh} {
			mark, before := v.Mark(), look(v)
			shadows(t, v, 1, 4, 0)
			equalLists(t, "Counts", v.Counts(), c.wantA)
			reads(t, v, 4, c.p, 0)
			reads(t, v, 1, c.p, 0)
			shadows(t, v, 1, 5, 0)
			equalLists(t, "Counts", v.Counts(), c.wantB)
			reads(t, v, 5, c.p, 0)
			equal(t, "Mark", v.Mark(), mark+2)
			writes(t, v, 5, L("other"), 0)
			reads(t, v, 1, c.p, 0)
			equal(t, "Undo", v.Undo(mark), true)
			equal(t, "behind Undo", look(v), before)
		}
	}
}

// wants is a vault of refs 3 on whose page 1, of the count 2, p stands; page 2 has
// the count 3, page 3 the count 2, page 4 is Pending, and page 5 Free.
func wants(t *testing.T, p api.Page) *vault.Vault {
	t.Helper()
	v := load(t, 3, []int{2, 3, 2, 1, 0}, p, L("b"), L("c"), L("d"))
	drops(t, v, 4, 0)
	return v
}

// unmet is pages that lead to what cannot have one more, and by which error: that
// of the first one of them.
func unmet() map[string]struct {
	p api.Page
	e api.Errno
} {
	type row = struct {
		p api.Page
		e api.Errno
	}
	return map[string]row{
		"at the greatest count":      {N(2, 3), errRefs},
		"the second one":             {N(3, 2), errRefs},
		"a value":                    {V(3, 2), errRefs},
		"a blob":                     {B(2), errRefs},
		"the same one once too much": {N(3, 3), errRefs},
		"Pending":                    {N(3, 4), errPage},
		"no page":                    {N(3, 6), errPage},
		"a value that is no page":    {V(3, 65536), errPage},
		"a blob that is Pending":     {B(4), errPage},
		"ErrPage ahead of ErrRefs":   {N(6, 2), errPage},
		"ErrRefs ahead of ErrPage":   {N(2, 6), errRefs},
		"behind one that can":        {N(3, 1, 4), errPage},
	}
}

func TestP11_6ChildrenThatCannot(t *testing.T) {
	for name, c := range unmet() {
		v := wants(t, c.p)
		unchanged(t, v, func() { shadows(t, v, 1, 0, c.e) })
		makes(t, v, L("full"), 5, 0)
		// ErrSpace stands ahead of what comes of the children.
		unchanged(t, v, func() { shadows(t, v, 1, 0, errSpace) })
		drops(t, v, 5, 0)
		// With one place less, the shadow leads there in place of the page.
		drops(t, v, 1, 0)
		s, e := v.Shadow(1)
		equal(t, name, [2]int{s, int(e)}, [2]int{5, 0})
		equalLists(t, name, v.Counts(), []int{0, 3, 2, 0, 1})
		reads(t, v, 5, c.p, 0)
	}
}

// The shadow to be is there when the children have one more; the page itself has
// one less then.
func TestP11_6TheStepsInTheirOrder(t *testing.T) {
	v := wants(t, N(5, 5))
	shadows(t, v, 1, 5, 0)
	equalLists(t, "Counts", v.Counts(), []int{1, 3, 2, 0, 3})
	v = wants(t, N(5, 5, 5))
	unchanged(t, v, func() { shadows(t, v, 1, 0, errRefs) })
	v = load(t, 2, []int{2, 0}, B(1))
	shadows(t, v, 1, 2, 0)
	equalLists(t, "Counts", v.Counts(), []int{2, 1})
	v = load(t, 2, []int{2, 0}, N(1, 1))
	unchanged(t, v, func() { shadows(t, v, 1, 0, errRefs) })
}

func TestP11_6NoSuchPage(t *testing.T) {
	v := fourStates(t)
	for _, n := range append(noPages(8), 2, 4, 6, 8) {
		unchanged(t, v, func() { shadows(t, v, n, 0, errPage) })
	}
	makes(t, v, B(0), 4, 0)
	makes(t, v, B(0), 8, 0)
	for _, n := range append(noPages(8), 2, 6) {
		unchanged(t, v, func() { shadows(t, v, n, 0, errPage) })
	}
	for _, n := range []int{1, 5, 7} {
		unchanged(t, v, func() { shadows(t, v, n, 0, errSpace) })
	}
	for _, n := range []int{3, 4, 8} {
		unchanged(t, v, func() { shadows(t, v, n, n, 0) })
	}
}

// Take of a page whose count is 1: it is given back, Fresh or Held, and what it
// leads to is not looked at.
func TestP11_7TakeOfTheLast(t *testing.T) {
	for _, p := range []api.Page{L("a"), N(1, 3), N(3, 3), N(2, 9), V(1, 2, 3), B(0), B(3), B(1)} {
		v := load(t, 2, []int{1, 0, 2}, p, api.Page{}, L("z"))
		makes(t, v, p, 2, 0)
		takes(t, v, 1, p, 0)
		equalLists(t, "states", states(v), []int{pending, fresh, held})
		equal(t, "what lasts", listed(v.Pages(pending)), "1: "+text(p)+"; ")
		takes(t, v, 2, p, 0)
		equalLists(t, "states", states(v), []int{pending, free, held})
		equalLists(t, "Counts", v.Counts(), []int{0, 0, 2})
		equal(t, "what is Free", listed(v.Pages(free)), "2: "+text(api.Page{})+"; ")
		equal(t, "Mark", v.Mark(), 3)
		unchanged(t, v, func() {
			takes(t, v, 1, api.Page{}, errPage)
			takes(t, v, 2, api.Page{}, errPage)
		})
		equal(t, "Undo(2)", v.Undo(2), true)
		reads(t, v, 2, p, 0)
		equal(t, "Undo(1)", v.Undo(1), true)
		reads(t, v, 1, p, 0)
		equalLists(t, "Counts", v.Counts(), []int{1, 1, 2})
	}
}

func TestP11_7TakeOfOneThatIsShared(t *testing.T) {
	for _, c := range []struct {
		p    api.Page
		want []int
	}{
		{L("a"), []int{2, 1, 2}}, {N(2, 3), []int{2, 2, 3}}, {N(2, 2), []int{2, 3, 2}}, {N(2, 3, 2), []int{2, 3, 3}},
		{V(), []int{2, 1, 2}}, {V(2, 2), []int{2, 3, 2}}, {B(2), []int{2, 2, 2}}, {B(0), []int{2, 1, 2}}, {B(1), []int{3, 1, 2}},
	} {
		v := load(t, 3, []int{3, 1, 2}, c.p, L("x"), L("y"))
		takes(t, v, 1, c.p, 0)
		equalLists(t, "Counts", v.Counts(), c.want)
		equalLists(t, "states", states(v), []int{held, held, held})
		reads(t, v, 1, c.p, 0)
		equal(t, "Mark", v.Mark(), 1)
		equal(t, "Undo(0)", v.Undo(0), true)
		equalLists(t, "Counts", v.Counts(), []int{3, 1, 2})
	}
}

func TestP11_7ChildrenThatCannot(t *testing.T) {
	for name, c := range unmet() {
		v := wants(t, c.p)
		unchanged(t, v, func() { takes(t, v, 1, api.Page{}, c.e) })
		makes(t, v, L("full"), 5, 0)
		unchanged(t, v, func() { takes(t, v, 1, api.Page{}, c.e) }) // it needs no page
		drops(t, v, 1, 0)
		takes(t, v, 1, c.p, 0)
		equalLists(t, name, v.Counts(), []int{0, 3, 2, 0, 1})
		equalLists(t, name, states(v), []int{pending, held, held, pending, fresh})
	}
	// The page itself has one less when its children have one more.
	v := load(t, 2, []int{2, 0}, B(1))
	takes(t, v, 1, B(1), 0)
	equalLists(t, "Counts", v.Counts(), []int{2, 0})
	v = load(t, 2, []int{2, 0}, N(1, 1))
	unchanged(t, v, func() { takes(t, v, 1, api.Page{}, errRefs) })
}

func TestP11_7NoSuchPage(t *testing.T) {
	v := fourStates(t)
	for _, n := range append(noPages(8), 2, 4, 6, 8) {
		unchanged(t, v, func() { takes(t, v, n, api.Page{}, errPage) })
	}
}
