package cut_test

import (
	"fmt"
	"testing"

	"coppice/api"
	"coppice/cut"
	"coppice/grove"
	"coppice/page"
	"coppice/vault"
	"coppice/view"
)

// seen is a tree as it looks from outside: its pages with what stands on them, and its
// pairs.
func seen(t *testing.T, v *vault.Vault, x api.Tree) string {
	t.Helper()
	text := told(pairs(t, v, x))
	led := grove.Led(v, x)
	for n := 1; n <= v.Len(); n++ {
		if led[n] > 0 {
			p, _ := v.Read(n)
			text += fmt.Sprintf("; %d %s", n, view.Page(p))
		}
	}
	return text
}

// seenAll is all of these trees.
func seenAll(t *testing.T, v *vault.Vault, trees []api.Tree) string {
	t.Helper()
	text := ""
	for _, x := range trees {
		text += seen(t, v, x) + "\n"
	}
	return text
}

// holds is a cut that is held against the steps and all promises; others are trees that
// stand together with x.
func holds(t *testing.T, v *vault.Vault, x api.Tree, key []byte, others ...api.Tree) (api.Tree, did, api.Errno) {
	t.Helper()
	what := fmt.Sprintf("Cut(%v, %x)", x, key)
	before, mark := grove.StoreFrom(v), v.Mark()
	want, wantTree, steps, wantE := modelCut(before, x, key)
	wantPairs, had := without(pairs(t, v, x), key)
	beside := seenAll(t, v, others)
	got, is, e := cut.Cut(v, x, key)
	if got != wantTree || is != (steps.there && wantE == 0) || e != wantE {
		t.Fatalf("%s = %v, %t, %d; want %v, %t, %d", what, got, is, e, wantTree, steps.there, wantE)
	}
	equal(t, what+": a page that is not what the steps make of it", want.Differs(v), 0)
	equal(t, what+": the other trees", seenAll(t, v, others), beside)
	if e != 0 || !is {
		equal(t, what+": Mark", v.Mark(), mark)
		room(t, before, x, e)
		return got, steps, e
	}
	equal(t, what+": was it there", is, had)
	equal(t, what+": its pairs", told(pairs(t, v, got)), told(wantPairs))
	equal(t, what+": Items", got.Items, x.Items-1)
	stand(t, v, append([]api.Tree{got}, others...)...)
	then := grove.StoreFrom(v)
	noMore(t, before, then, x)
	height(t, before, x, got)
	again(t, before, then, v, mark, func() {
		y, was, e := cut.Cut(v, x, key)
		equal(t, what+" once more", fmt.Sprint(y, was, e), fmt.Sprint(got, true, api.OK))
	})
	return got, steps, e
}

// room: P16.5, of a cut that was refused.
func room(t *testing.T, before *grove.Store, x api.Tree, e api.Errno) {
	t.Helper()
	if e == errSpace && before.Tally(free) >= 2*x.Height-1 {
		t.Fatalf("ErrSpace, with %d free pages for the Height %d", before.Tally(free), x.Height)
	}
	v, _ := before.Vault()
	counts := 0
	for n := range grove.Led(v, x) {
		counts = max(counts, before.Counts[n-1])
	}
	if e == errRefs && counts <= before.Refs-1 {
		t.Fatalf("ErrRefs, with no count above %d, Refs %d", counts, before.Refs)
	}
}

// noMore: P16.6, of a cut that was done; and nothing odd stands anywhere (P16.2).
func noMore(t *testing.T, before, then *grove.Store, x api.Tree) {
	t.Helper()
	taken := 0
	for n := range len(before.Counts) {
		n++
		if then.State(n) != free && page.Check(then.On[n-1]) != 0 {
			t.Fatalf("on page %d stands what no page may bear: %s", n, view.Page(then.On[n-1]))
		}
		switch {
		case before.Lasts[n-1] == 1:
			if then.Lasts[n-1] != 1 || !grove.Same(then.On[n-1], before.On[n-1]) {
				t.Fatalf("what lasts on page %d: %s, it was %s", n, view.Page(then.On[n-1]), view.Page(before.On[n-1]))
			}
		case before.State(n) == free && then.State(n) == fresh:
			taken++
		}
	}
	if taken > 2*x.Height-1 {
		t.Fatalf("%d pages became Fresh, with the Height %d", taken, x.Height)
	}
	if taken > 0 && isOwn(before, x) {
		t.Fatalf("%d pages became Fresh, with a tree of its own pages", taken)
	}
}

// isOwn: are all pages of the tree Fresh, with the count 1?
func isOwn(s *grove.Store, x api.Tree) bool {
	v, _ := s.Vault()
	for n := range grove.Led(v, x) {
		if s.State(n) != fresh || s.Counts[n-1] != 1 {
			return false
		}
	}
	return true
}

// height: P16.7.
func height(t *testing.T, before *grove.Store, was, is api.Tree) {
	t.Helper()
	root := before.On[was.Root-1]
	mayFall := root.Kind == indexKind && len(root.Items) == 2 || root.Kind == leafKind && len(root.Items) == 1
	if fell := was.Height - is.Height; fell != 0 && (fell != 1 || !mayFall) {
		t.Fatalf("the Height is %d, it was %d, with a root of %d items", is.Height, was.Height, len(root.Items))
	}
}

// again: what was done behind the mark can be undone, and done again, all of it alike.
func again(t *testing.T, before, then *grove.Store, v *vault.Vault, mark int, do func()) {
	t.Helper()
	equal(t, "Mark is not below what it was", v.Mark() >= mark, true)
	equal(t, "Undo", v.Undo(mark), true)
	equal(t, "a page that is not as it was, behind Undo", before.Differs(v), 0)
	do()
	equal(t, "a page that is another one the second time", then.Differs(v), 0)
}

// kinds is what kinds of cuts were met.
type kinds map[string]int

func (k kinds) add(x api.Tree, d did, e api.Errno) {
	switch {
	case e != 0:
		k[fmt.Sprintf("%d at %s", e, d.failed)]++
		return
	case !d.there:
		k[fmt.Sprintf("height %d, not there", x.Height)]++
		return
	}
	k[fmt.Sprintf("height %d, fell %t", x.Height, d.fell)]++
	k[fmt.Sprintf("height %d, %d shadows", x.Height, d.shadows)]++
	place := "between"
	switch d.at {
	case 0:
		place = "first"
	case d.of - 1:
		place = "last"
	}
	k[fmt.Sprintf("height %d, %s", x.Height, place)]++
	k[fmt.Sprintf("pages %t", d.pages > 0)]++
	for at, how := range d.fills {
		if how != "" {
			k[fmt.Sprintf("%s, level %d", how, x.Height-2-at)]++
			k[fmt.Sprintf("%s, beneath the root %t", how, at == 0)]++
		}
	}
}

// wants: each of these was met so many times.
func (k kinds) wants(t *testing.T, n int, what ...string) {
	t.Helper()
	for _, w := range what {
		if k[w] < n {
			t.Errorf("%q was met %d times", w, k[w])
		}
	}
}
