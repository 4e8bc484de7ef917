package bulk_test

import (
	"fmt"
	"testing"

	"coppice/api"
	"coppice/bulk"
	"coppice/grove"
	"coppice/vault"
)

// builds is a Build that is held against the chapter; others are trees that stand in the
// vault.
func builds(t *testing.T, v *vault.Vault, l []api.Pair, others ...api.Tree) (api.Tree, api.Errno) {
	t.Helper()
	what := fmt.Sprintf("Build of %d pairs", len(l))
	before, mark, beside := grove.StoreFrom(v), v.Mark(), seen(t, v, others)
	want, wantTree, wantE := modelBuild(before, l)
	x, e := bulk.Build(v, l)
	equal(t, what, fmt.Sprint(x, e), fmt.Sprint(wantTree, wantE))
	equal(t, what+": a page that is not as it must be", want.Differs(v), 0)
	equal(t, what+": the other trees", seen(t, v, others), beside)
	if e != 0 {
		asBefore(t, v, mark)
		return x, e
	}
	shape(t, v, x, len(l))
	equal(t, what+": its pairs", told(pairs(t, v, x)), told(l))
	equal(t, what+": how many pages it took", before.Tally(free)-v.Tally(free), wanted(l))
	equal(t, what+": how many became Fresh", v.Tally(fresh)-before.Tally(fresh), wanted(l))
	stand(t, v, append([]api.Tree{x}, others...)...)
	kept(t, before, v)
	again(t, before, want, v, mark, func() api.Errno {
		y, e := bulk.Build(v, l)
		equal(t, what+" once more", y, x)
		return e
	})
	return x, e
}

// asBefore: Mark is as it was, and nothing behind it can be undone.
func asBefore(t *testing.T, v *vault.Vault, mark int) {
	t.Helper()
	equal(t, "Mark", v.Mark(), mark)
	equal(t, "Undo(Mark + 1)", v.Undo(mark+1), false)
	equal(t, "Undo(Mark)", v.Undo(mark), true)
}

// levels is how many items the pages of each level have, from the root down.
func levels(t *testing.T, v *vault.Vault, x api.Tree) [][]int {
	t.Helper()
	var l [][]int
	row := []int{x.Root}
	for range x.Height {
		var sizes, beneath []int
		for _, n := range row {
			p, e := v.Read(n)
			equal(t, "Read", e, 0)
			sizes = append(sizes, len(p.Items))
			for _, i := range p.Items {
				beneath = append(beneath, i.Child)
			}
		}
		l, row = append(l, sizes), beneath
	}
	return l
}

// shape: P18.3, and how many things the pages of each level have, of a tree of so many
// keys that was built.
func shape(t *testing.T, v *vault.Vault, x api.Tree, keys int) {
	t.Helper()
	if keys == 0 {
		equal(t, "the empty tree", x, empty)
		return
	}
	equal(t, "Items", x.Items, keys)
	height := 1
	for room := most; room < keys; room *= most { // a tree of that Height has room for so many
		height++
	}
	equal(t, "Height", x.Height, height)
	l := levels(t, v, x)
	equal(t, "leaves", len(l[height-1]), (keys+most-1)/most)
	for _, sizes := range l {
		evenly(t, sizes)
	}
}

// evenly: each of several pages has from Least to Most things, the first ones one more
// than the others.
func evenly(t *testing.T, sizes []int) {
	t.Helper()
	first, last := sizes[0], sizes[len(sizes)-1]
	if last > first || first > last+1 || first > most || len(sizes) > 1 && last < least {
		t.Fatalf("pages of %v things", sizes)
	}
	for k := 1; k < len(sizes); k++ {
		if sizes[k] > sizes[k-1] {
			t.Fatalf("pages of %v things", sizes)
		}
	}
}

// loads is a Load that is held against the chapter; others are trees that stand together
// with x.
func loads(t *testing.T, v *vault.Vault, x api.Tree, l []api.Pair, others ...api.Tree) came {
	t.Helper()
	what := fmt.Sprintf("Load of %d pairs into %v", len(l), x)
	before, mark, beside := grove.StoreFrom(v), v.Mark(), seen(t, v, others)
	had := pairs(t, v, x)
	want := modelLoad(t, before, x, l)
	got, n, e := bulk.Load(v, x, l)
	equal(t, what, fmt.Sprint(got, n, e), fmt.Sprint(want.tree, want.n, want.e))
	equal(t, what+": a page that is not as puts make it", want.then.Differs(v), 0)
	equal(t, what+": the other trees", seen(t, v, others), beside)
	if e != 0 {
		asBefore(t, v, mark)
		equal(t, what+": its pairs behind an error", told(pairs(t, v, x)), told(had))
		return want
	}
	wantPairs := lastValues(append(had, l...))
	equal(t, what+": its pairs", told(pairs(t, v, got)), told(wantPairs))
	equal(t, what+": how many were not there", n, len(wantPairs)-len(had))
	equal(t, what+": Items", got.Items, len(wantPairs))
	stand(t, v, append([]api.Tree{got}, others...)...)
	kept(t, before, v)
	again(t, before, want.then, v, mark, func() api.Errno {
		y, m, e := bulk.Load(v, x, l)
		equal(t, what+" once more", fmt.Sprint(y, m), fmt.Sprint(got, n))
		return e
	})
	return want
}

// trims is a Trim that is held against the chapter; others are trees that stand together
// with x. It tells how many keys lie in the range, too.
func trims(t *testing.T, v *vault.Vault, x api.Tree, r api.Range, others ...api.Tree) (came, int) {
	t.Helper()
	what := fmt.Sprintf("Trim of %v by [%x, %x), open: %t", x, r.Lo, r.Hi, r.Open)
	before, mark, beside := grove.StoreFrom(v), v.Mark(), seen(t, v, others)
	had := pairs(t, v, x)
	want, gone := modelTrim(t, before, x, r)
	got, n, e := bulk.Trim(v, x, r)
	equal(t, what, fmt.Sprint(got, n, e), fmt.Sprint(want.tree, want.n, want.e))
	equal(t, what+": a page that is not as cuts make it", want.then.Differs(v), 0)
	equal(t, what+": the other trees", seen(t, v, others), beside)
	if e != 0 || n == 0 {
		asBefore(t, v, mark)
		equal(t, what+": its pairs behind an error", told(pairs(t, v, x)), told(had))
		return want, len(gone)
	}
	var left []api.Pair
	for _, p := range had {
		if !lies(r, p.Key) {
			left = append(left, p)
		}
	}
	equal(t, what+": its pairs", told(pairs(t, v, got)), told(left))
	equal(t, what+": how many there are fewer", n, len(had)-len(left))
	equal(t, what+": Items", got.Items, len(left))
	stand(t, v, append([]api.Tree{got}, others...)...)
	kept(t, before, v)
	again(t, before, want.then, v, mark, func() api.Errno {
		y, m, e := bulk.Trim(v, x, r)
		equal(t, what+" once more", fmt.Sprint(y, m), fmt.Sprint(got, n))
		return e
	})
	return want, len(gone)
}
