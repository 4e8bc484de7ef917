package fork_test

import (
	"fmt"
	"slices"
	"testing"

	"coppice/api"
	"coppice/draw"
	"coppice/fork"
	"coppice/grove"
)

// Rows of clones, puts, cuts and drops, with a Settle and an Undo here and there: behind
// each of them the counts are Counts of the trees that are there.
func TestP17_5Rows(t *testing.T) {
	t.Parallel()
	r, met := draw.Numbers(331), map[string]int{}
	for round := range 120 {
		w := plant(t, &r, grove.Any(&r, 1+round%3), 2+r.Below(4), 30+r.Below(100), r.Below(5))
		w.met = met
		for range 30 {
			w.step(t, &r)
			freedIsOnly(t, w)
		}
		stand(t, w.v, w.trees...)
		tells(t, w.v, w.trees...)
	}
	for _, want := range []string{"put error 0", "cut error 0", "clone error 0", "clone error 13", "drop error 0", "sow error 0", "settle error 0", "undo error 0", "drop that gives back true", "drop that gives back false"} {
		if met[want] < 20 {
			t.Errorf("%q was met %d times", want, met[want])
		}
	}
}

// freedIsOnly: of each tree Freed is how many pages are reached from it alone.
func freedIsOnly(t *testing.T, w *wood) {
	t.Helper()
	for k, x := range w.trees {
		equal(t, fmt.Sprintf("Freed(%v), of %v", x, w.trees), freed(t, w.v, x), len(only(t, w.v, x, w.without(k)...)))
	}
}

// All trees of a wood are dropped, in several orders: no count is left, and each one that
// is there still stands, with its pages and pairs.
func TestP17_5AllDropped(t *testing.T) {
	t.Parallel()
	r := draw.Numbers(332)
	for round := range 60 {
		w := someWood(t, &r, 1+round%4)
		for range 3 {
			w.step(t, &r)
		}
		start, began := w.trees, grove.StoreFrom(w.v)
		some := orders(start)
		for _, order := range some[:min(6, len(some))] {
			v := vaultOf(t, began)
			for k, x := range order {
				rest := order[k+1:]
				gone := only(t, v, x, rest...)
				equalLists(t, "what is given back", drops(t, v, x, rest...), gone)
				equalLists(t, "the counts", v.Counts(), counts(t, v, rest...))
				if r.Below(4) == 0 {
					v.Settle()
				}
			}
			equal(t, "pages with a count", v.Tally(fresh)+v.Tally(held), 0)
			v.Settle()
			equal(t, "Free", v.Tally(free), v.Len())
		}
	}
}

// Clone and then Drop of the clone, or of the first one, however often, is as if nothing
// had been done.
func TestP17_5CloneAndDrop(t *testing.T) {
	t.Parallel()
	r := draw.Numbers(333)
	for round := range 120 {
		w := someWood(t, &r, 1+round%3)
		before, beside := grove.StoreFrom(w.v), seen(t, w.v, w.trees...)
		for range 5 {
			var clones []api.Tree
			for _, x := range w.trees {
				if y, e := fork.Clone(w.v, x); e == 0 {
					equal(t, "the clone", y, x)
					clones = append(clones, y)
				}
			}
			equalLists(t, "the counts", w.v.Counts(), counts(t, w.v, append(slices.Clone(w.trees), clones...)...))
			for _, n := range grove.Shuffle(&r, len(clones)) {
				equal(t, "Drop", fork.Drop(w.v, clones[n-1]), 0)
			}
			equal(t, "a page that is not as it was", before.Differs(w.v), 0)
			equal(t, "the trees", seen(t, w.v, w.trees...), beside)
		}
	}
}

// What is put into a clone, or cut out of it, takes pages of its own, and Drop gives just
// these back.
func TestP17_5OwnPages(t *testing.T) {
	t.Parallel()
	r := draw.Numbers(334)
	for round := range 120 {
		g := grove.Any(&r, 1+round%3)
		w := plant(t, &r, g, 9, 200, r.Below(5))
		before, x := grove.StoreFrom(w.v), g.Tree
		y, e := fork.Clone(w.v, x)
		equal(t, "Clone", e, 0)
		w.trees = append(w.trees, y)
		for range 1 + r.Below(8) {
			equal(t, "Put", w.put(t, &r, 1), 0)
			equal(t, "Cut", w.cut(t, &r, 1), 0)
			w.right(t, "a row of puts and cuts")
		}
		y = w.trees[1]
		own, counted := only(t, w.v, y, x), w.v.Tally(fresh)+w.v.Tally(held)
		equalLists(t, "its own pages, and those of the other one", slices.Sorted(slices.Values(slices.Concat(own, reach(t, w.v, x)))), all(counts(t, w.v, x, y)))
		equal(t, "no page of the first tree is another one", seen(t, w.v, x), seen(t, vaultOf(t, before), x))
		equalLists(t, "what Drop gives back", drops(t, w.v, y, x), own)
		equal(t, "what has a count", w.v.Tally(fresh)+w.v.Tally(held), counted-len(own))
		equal(t, "all is as it was", before.Differs(w.v), 0)
	}
}

// all is the pages with a count.
func all(counts []int) []int {
	var l []int
	for k, c := range counts {
		if c > 0 {
			l = append(l, k+1)
		}
	}
	return l
}

// Counts of two lists of trees together are at most the sum of those of each; the same
// number, where they share no page but their roots.
func TestP17_5Together(t *testing.T) {
	t.Parallel()
	r, less := draw.Numbers(335), 0
	for round := range 150 {
		w := someWood(t, &r, 1+round%3)
		var l, m []api.Tree
		for _, x := range append(w.trees, w.trees...) { // each may be in both, or twice in one
			if r.Below(2) == 0 {
				l = append(l, x)
			} else {
				m = append(m, x)
			}
		}
		a, b, both := counts(t, w.v, l...), counts(t, w.v, m...), counts(t, w.v, append(slices.Clone(l), m...)...)
		for k := range both {
			if both[k] > a[k]+b[k] || both[k] < max(a[k], b[k]) {
				t.Fatalf("page %d: %d together, %d and %d", k+1, both[k], a[k], b[k])
			}
			if both[k] < a[k]+b[k] {
				less++
			}
		}
	}
	equal(t, "some are less than the sum", less > 100, true)
}

// Trees that share only pages of values: a leaf is shadowed, its values are not.
func TestP17_5Values(t *testing.T) {
	v := newVault(t, 20, 3)
	x := putAll(t, v, empty, api.Pair{Key: []byte("a"), Value: grove.Value(maxValue)}, api.Pair{Key: []byte("b"), Value: grove.Value(inline + 1)})
	equal(t, "the tree", x, tree(9, 1, 2))
	y, e := fork.Clone(v, x)
	equal(t, "Clone", e, 0)
	y = putAll(t, v, y, api.Pair{Key: []byte("c"), Value: nil})
	equal(t, "the other one", y, tree(11, 1, 3))
	equalLists(t, "the counts", v.Counts(), []int{1, 1, 1, 1, 1, 1, 1, 2, 1, 2, 1, 0, 0, 0, 0, 0, 0, 0, 0, 0})
	tells(t, v, x, y)
	equalLists(t, "Only", only(t, v, x, y), []int{9})
	equalLists(t, "Only of the other one", only(t, v, y, x), []int{11})
	equalLists(t, "what is given back", drops(t, v, x, y), []int{9})
	equalLists(t, "the counts", v.Counts(), []int{1, 1, 1, 1, 1, 1, 1, 1, 0, 1, 1, 0, 0, 0, 0, 0, 0, 0, 0, 0})
	equalLists(t, "what is given back", drops(t, v, y), []int{1, 2, 3, 4, 5, 6, 7, 8, 10, 11})
}
