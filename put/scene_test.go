package put_test

import (
	"fmt"
	"testing"

	"coppice/api"
	"coppice/grove"
	"coppice/put"
	"coppice/vault"
	"coppice/view"
)

// seen is a tree as it looks from outside: its pages with what stands on them, and its
// pairs.
func seen(t *testing.T, v *vault.Vault, x api.Tree) string {
	t.Helper()
	text := told(pairs(t, v, x))
	led := grove.Led(v, x)
	for n := 1; n <= v.Len(); n++ {
		if led[n] > 0 {
			p, _ := v.Read(n)
			text += fmt.Sprintf("; %d %s", n, view.Page(p))
		}
	}
	return text
}

// seenAll is all of these trees.
func seenAll(t *testing.T, v *vault.Vault, trees []api.Tree) string {
	t.Helper()
	text := ""
	for _, x := range trees {
		text += seen(t, v, x) + "\n"
	}
	return text
}

// holds is a put that is held against the steps and all promises; others are trees that
// stand together with x.
func holds(t *testing.T, v *vault.Vault, x api.Tree, key, value []byte, others ...api.Tree) (api.Tree, did, api.Errno) {
	t.Helper()
	what := fmt.Sprintf("Put(%v, %x, %d bytes)", x, key, len(value))
	before, mark := grove.StoreFrom(v), v.Mark()
	want, wantTree, steps, wantE := modelPut(before, x, key, value)
	wantPairs, had := with(pairs(t, v, x), key, value)
	beside := seenAll(t, v, others)
	got, is, e := put.Put(v, x, key, value)
	if got != wantTree || is != steps.there || e != wantE {
		t.Fatalf("%s = %v, %t, %d; want %v, %t, %d", what, got, is, e, wantTree, steps.there, wantE)
	}
	equal(t, what+": a page that is not what the steps make of it", want.Differs(v), 0)
	equal(t, what+": the other trees", seenAll(t, v, others), beside)
	if e != 0 {
		equal(t, what+": Mark", v.Mark(), mark)
		room(t, before, x, value, e)
		return got, steps, e
	}
	equal(t, what+": was it there", is, had)
	equal(t, what+": its pairs", told(pairs(t, v, got)), told(wantPairs))
	equal(t, what+": Items", got.Items, len(wantPairs))
	stand(t, v, append([]api.Tree{got}, others...)...)
	then := grove.StoreFrom(v)
	noMore(t, before, then, x, value)
	isFull := x.Root != 0 && len(before.On[x.Root-1].Items) == most
	if grew := got.Height - x.Height; grew != 0 && (grew != 1 || x != empty && !isFull) {
		t.Fatalf("%s: the Height is %d, it was %d", what, got.Height, x.Height)
	}
	again(t, before, then, v, mark, func() {
		y, was, e := put.Put(v, x, key, value)
		equal(t, what+" once more", fmt.Sprint(y, was, e), fmt.Sprint(got, is, api.OK))
	})
	return got, steps, e
}

// room: P15.5, of a put that was refused.
func room(t *testing.T, before *grove.Store, x api.Tree, value []byte, e api.Errno) {
	t.Helper()
	if e == errSpace && before.Tally(free) >= 2*x.Height+1+pagesOf(value) {
		t.Fatalf("ErrSpace, with %d free pages for the Height %d and %d bytes", before.Tally(free), x.Height, len(value))
	}
	v, _ := before.Vault()
	counts := 0
	for n := range grove.Led(v, x) {
		counts = max(counts, before.Counts[n-1])
	}
	if e == errRefs && counts <= before.Refs-1 {
		t.Fatalf("ErrRefs, with no count above %d, Refs %d", counts, before.Refs)
	}
}

// noMore: P15.6, of a put that was done.
func noMore(t *testing.T, before, then *grove.Store, x api.Tree, value []byte) {
	t.Helper()
	taken := 0
	for n := range len(before.Counts) {
		switch n++; {
		case before.Lasts[n-1] == 1:
			if then.Lasts[n-1] != 1 || !grove.Same(then.On[n-1], before.On[n-1]) {
				t.Fatalf("what lasts on page %d: %s, it was %s", n, view.Page(then.On[n-1]), view.Page(before.On[n-1]))
			}
		case before.State(n) == free && then.State(n) == fresh:
			taken++
		}
	}
	if taken > 2*x.Height+1+pagesOf(value) {
		t.Fatalf("%d pages became Fresh, with the Height %d and %d bytes", taken, x.Height, len(value))
	}
}

// again: what was done behind the mark can be undone, and done again, all of it alike.
func again(t *testing.T, before, then *grove.Store, v *vault.Vault, mark int, do func()) {
	t.Helper()
	equal(t, "Mark is not below what it was", v.Mark() >= mark, true)
	equal(t, "Undo", v.Undo(mark), true)
	equal(t, "a page that is not as it was, behind Undo", before.Differs(v), 0)
	do()
	equal(t, "a page that is another one the second time", then.Differs(v), 0)
}
