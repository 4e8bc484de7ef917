package fork_test

import (
	"fmt"
	"slices"
	"strings"
	"testing"

	"coppice/api"
	"coppice/cut"
	"coppice/draw"
	"coppice/fork"
	"coppice/grove"
	"coppice/put"
	"coppice/vault"
	"coppice/view"
)

// seen is trees as they look from outside: the pages of each with what stands on them, and
// its pairs.
func seen(t *testing.T, v *vault.Vault, trees ...api.Tree) string {
	t.Helper()
	s := grove.StoreFrom(v)
	var text strings.Builder
	for _, x := range trees {
		text.WriteString(told(pairs(t, v, x)))
		for _, n := range modelOnly(s, x) {
			fmt.Fprint(&text, "; ", n, " ", view.Page(s.On[n-1]))
		}
		text.WriteString("\n")
	}
	return text.String()
}

// tells: what is told of these trees, each of which stands there by itself, is what the
// chapter says, and the vault is as it was.
func tells(t *testing.T, v *vault.Vault, trees ...api.Tree) {
	t.Helper()
	s, mark := grove.StoreFrom(v), v.Mark()
	all := counts(t, v, trees...)
	equalLists(t, fmt.Sprintf("Counts(%v)", trees), all, modelCounts(s, trees...))
	for k, x := range trees {
		others := slices.Delete(slices.Clone(trees), k, k+1)
		tellsOne(t, v, s, x, others)
		without := counts(t, v, others...)
		equalLists(t, fmt.Sprintf("Counts(%v)", others), without, modelCounts(s, others...))
		for n, c := range counts(t, v, x) {
			if all[n] > c+without[n] {
				t.Fatalf("page %d: Counts of all trees %d, of one %d, of the others %d", n+1, all[n], c, without[n])
			}
		}
	}
	equal(t, "a page that is not as it was, behind a look", s.Differs(v), 0)
	equal(t, "Mark behind a look", v.Mark(), mark)
}

// tellsOne is of one tree.
func tellsOne(t *testing.T, v *vault.Vault, s *grove.Store, x api.Tree, others []api.Tree) {
	t.Helper()
	what := fmt.Sprint(x)
	equalLists(t, "Reach"+what, reach(t, v, x), modelOnly(s, x))
	equalLists(t, "Counts"+what, counts(t, v, x), modelCounts(s, x))
	equalLists(t, "Only"+what+" with no others", only(t, v, x), modelOnly(s, x))
	equalLists(t, "Only"+what+" and the others", only(t, v, x, others...), modelOnly(s, x, others...))
	equalLists(t, "Only"+what+" and itself", only(t, v, x, append(slices.Clone(others), x)...), nil)
	equalLists(t, "Only"+what+" and the others twice", only(t, v, x, slices.Concat(others, others)...), modelOnly(s, x, others...))
	_, gone := modelDrop(s, x)
	equal(t, "Freed"+what, freed(t, v, x), len(gone))
}

// clones is a Clone that is held against the chapter.
func clones(t *testing.T, v *vault.Vault, x api.Tree) (api.Tree, api.Errno) {
	t.Helper()
	before, mark := grove.StoreFrom(v), v.Mark()
	want, wantTree, wantE := modelClone(before, x)
	y, e := fork.Clone(v, x)
	equal(t, "Clone", fmt.Sprint(y, e), fmt.Sprint(wantTree, wantE))
	equal(t, "a page that is not as Clone makes it", want.Differs(v), 0)
	if e != 0 {
		equal(t, "Mark", v.Mark(), mark)
		return y, e
	}
	again(t, before, want, v, mark, func() api.Errno {
		_, e := fork.Clone(v, x)
		return e
	})
	// Clone and then Drop of the clone is as if nothing had been done.
	then := v.Mark()
	equal(t, "Drop of the clone", fork.Drop(v, y), 0)
	equal(t, "a page that is not as it was, behind Clone and Drop", before.Differs(v), 0)
	equal(t, "Undo", v.Undo(then), true)
	return y, e
}

// drops is a Drop that is held against the chapter; others are trees that stand together
// with x.
func drops(t *testing.T, v *vault.Vault, x api.Tree, others ...api.Tree) []int {
	t.Helper()
	before, mark, beside := grove.StoreFrom(v), v.Mark(), seen(t, v, others...)
	want, gone := modelDrop(before, x)
	pages := reach(t, v, x)
	equal(t, "Freed", freed(t, v, x), len(gone))
	equal(t, "Drop", fork.Drop(v, x), 0)
	equal(t, "a page that is not as Drop makes it", want.Differs(v), 0)
	for _, n := range gone {
		equal(t, "a page that is given back is one of Reach", slices.Contains(pages, n), true)
	}
	equal(t, "the other trees", seen(t, v, others...), beside)
	stand(t, v, others...)
	again(t, before, want, v, mark, func() api.Errno { return fork.Drop(v, x) })
	return gone
}

// again: what was done behind the mark can be undone, and done again, all of it alike.
func again(t *testing.T, before, then *grove.Store, v *vault.Vault, mark int, do func() api.Errno) {
	t.Helper()
	equal(t, "Mark is not below what it was", v.Mark() >= mark, true)
	equal(t, "Undo", v.Undo(mark), true)
	equal(t, "a page that is not as it was, behind Undo", before.Differs(v), 0)
	equal(t, "the second time", do(), 0)
	equal(t, "a page that is another one the second time", then.Differs(v), 0)
}

// wood is a vault with trees that stand there together, and nothing else: its counts are
// right for them.
type wood struct {
	v     *vault.Vault
	trees []api.Tree
	grown *grove.Grown // one of them, as it was at the beginning
	met   map[string]int
}

// plant is a wood of one tree; of so many of 4 pages it lasts.
func plant(t *testing.T, r *draw.Numbers, g *grove.Grown, refs, more, lasting int) *wood {
	t.Helper()
	s, trees := grove.Setting{Refs: refs, More: more, Lasting: lasting}.Lay(r, g)
	return &wood{vaultOf(t, s), trees, g, map[string]int{}}
}

// someWood is a wood of a few trees that share some of their pages.
func someWood(t *testing.T, r *draw.Numbers, height int) *wood {
	t.Helper()
	w := plant(t, r, grove.Any(r, height), 3+r.Below(5), 150, r.Below(5))
	for range 4 + r.Below(12) {
		w.step(t, r)
	}
	return w
}

// right: are the counts those of the trees that are there?
func (w *wood) right(t *testing.T, what string) {
	t.Helper()
	equalLists(t, what+": the counts", w.v.Counts(), counts(t, w.v, w.trees...))
	equalLists(t, what+": Counts", w.v.Counts(), modelCounts(grove.StoreFrom(w.v), w.trees...))
}

// without is all trees but one.
func (w *wood) without(at int) []api.Tree {
	return slices.Delete(slices.Clone(w.trees), at, at+1)
}

// step does something to one of the trees, or to all.
func (w *wood) step(t *testing.T, r *draw.Numbers) {
	t.Helper()
	ways := []struct {
		name string
		do   func(*testing.T, *draw.Numbers, int) api.Errno
	}{{"put", w.put}, {"put", w.put}, {"put", w.put}, {"cut", w.cut}, {"cut", w.cut}, {"clone", w.clone}, {"clone", w.clone}, {"drop", w.drop}, {"sow", w.sow}, {"settle", w.settle}, {"undo", w.undo}}
	way := ways[r.Below(len(ways))]
	if len(w.trees) == 0 {
		way.name, way.do = "sow", w.sow
	}
	e := way.do(t, r, r.Below(len(w.trees)+1))
	w.met[fmt.Sprint(way.name, " ", e)]++
	w.right(t, way.name)
}

// at is one of the trees, of one more than they are.
func (w *wood) at(n int) int { return min(n, len(w.trees)-1) }

func (w *wood) put(t *testing.T, r *draw.Numbers, n int) api.Errno {
	sizes := grove.Sizes()
	x, _, e := put.Put(w.v, w.trees[w.at(n)], w.grown.SomeKey(r), grove.Value(sizes[r.Below(len(sizes))]))
	if e == 0 {
		w.trees[w.at(n)] = x
	}
	return e
}

func (w *wood) cut(t *testing.T, r *draw.Numbers, n int) api.Errno {
	x, _, e := cut.Cut(w.v, w.trees[w.at(n)], w.grown.SomeKey(r))
	if e == 0 {
		w.trees[w.at(n)] = x
	}
	return e
}

func (w *wood) clone(t *testing.T, r *draw.Numbers, n int) api.Errno {
	x, e := clones(t, w.v, w.trees[w.at(n)])
	if e == 0 {
		w.trees = append(w.trees, x)
	}
	return e
}

func (w *wood) drop(t *testing.T, r *draw.Numbers, n int) api.Errno {
	n = w.at(n)
	gone := drops(t, w.v, w.trees[n], w.without(n)...)
	w.met[fmt.Sprintf("drop that gives back %t", len(gone) > 0)]++
	w.trees = w.without(n)
	return 0
}

// sow plants a tree more, the empty one or one of few keys.
func (w *wood) sow(t *testing.T, r *draw.Numbers, _ int) api.Errno {
	x, mark := empty, w.v.Mark()
	for range r.Below(12) {
		y, _, e := put.Put(w.v, x, grove.Key(r), grove.Value(r.Below(600)))
		if e != 0 {
			w.v.Undo(mark)
			return e
		}
		x = y
	}
	w.trees = append(w.trees, x)
	return 0
}

func (w *wood) settle(*testing.T, *draw.Numbers, int) api.Errno {
	w.v.Settle()
	return 0
}

// undo clones and drops trees, and undoes all of that.
func (w *wood) undo(t *testing.T, r *draw.Numbers, _ int) api.Errno {
	mark, trees, before := w.v.Mark(), slices.Clone(w.trees), grove.StoreFrom(w.v)
	for range 1 + r.Below(4) {
		if len(w.trees) > 0 {
			w.clone(t, r, r.Below(len(w.trees)))
			w.drop(t, r, r.Below(len(w.trees)))
		}
	}
	equal(t, "Undo", w.v.Undo(mark), true)
	equal(t, "a page that is not as it was, behind Undo", before.Differs(w.v), 0)
	w.trees = trees
	return 0
}
