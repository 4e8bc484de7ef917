package diff_test

import (
	"fmt"
	"slices"
	"testing"

	"coppice/api"
	"coppice/diff"
	"coppice/draw"
	"coppice/fork"
	"coppice/grove"
	"coppice/put"
	"coppice/vault"
)

// examples is the trees of the chapter's examples.
func examples(t *testing.T) (v *vault.Vault, a, b api.Tree) {
	t.Helper()
	v = newVault(t, 40, 9)
	return v, built(t, v, letters("a1b2c3")), built(t, v, letters("a1c4d5"))
}

// The chapter's table, row by row.
func TestExamples(t *testing.T) {
	v, a, b := examples(t)
	first := []api.Change{change(removed, "b", "2", ""), change(changed, "c", "3", "4"), change(added, "d", "", "5")}
	for _, c := range []struct {
		a, b api.Tree
		r    api.Range
		want []api.Change
	}{
		{a, b, allKeys, first},
		{b, a, allKeys, []api.Change{change(added, "b", "", "2"), change(changed, "c", "4", "3"), change(removed, "d", "5", "")}},
		{a, b, span("c", "d"), first[1:2]},
		{a, a, allKeys, nil},
		{empty, a, allKeys, []api.Change{change(added, "a", "", "1"), change(added, "b", "", "2"), change(added, "c", "", "3")}},
	} {
		equalChanges(t, fmt.Sprintf("List(%v, %v, %s)", c.a, c.b, text(c.r)), list(t, v, c.a, c.b, c.r), c.want)
	}
	equalChanges(t, "Turn", diff.Turn(first),
		[]api.Change{change(removed, "d", "5", ""), change(changed, "c", "4", "3"), change(added, "b", "", "2")})
	for _, c := range []struct {
		x    api.Tree
		l    []api.Change
		want api.Errno
	}{
		{b, first, errStale},
		{a, []api.Change{change(added, "e", "", "6"), change(removed, "x", "1", "")}, errStale},
		{a, []api.Change{{Kind: 7}}, errKind},
		{a, []api.Change{{Kind: added}}, errKey},
	} {
		unchanged(t, v, func() {
			x, e := diff.Apply(v, c.x, c.l)
			equal(t, "Apply", fmt.Sprint(x, e), fmt.Sprint(empty, c.want))
		})
	}
	x, e := diff.Apply(v, a, nil)
	equal(t, "Apply of none", fmt.Sprint(x, e), fmt.Sprint(a, api.OK))
	reach, _ := fork.Reach(v, a)
	equalLists(t, "Read of one tree", read(t, v, a, a), nil)
	equalLists(t, "Read of a tree and the empty one", read(t, v, a, empty), reach)
	x, e = diff.Apply(v, a, first)
	equal(t, "Apply", e, 0)
	equal(t, "its pairs", toldPairs(pairs(t, v, x)), toldPairs(letters("a1c4d5")))
}

// P20.1 and P20.2, of couples of all kinds.
func TestP20_1Couples(t *testing.T) {
	t.Parallel()
	r, met := draw.Numbers(601), met{}
	for round := range 600 {
		c := someCouple(t, &r, 1+round%4)
		l := c.tells(t, &r)
		met[c.name()]++
		for _, x := range l {
			met[fmt.Sprint("kind ", x.Kind)]++
		}
	}
	met.wants(t, 8, "kind 1", "kind 2", "kind 3", "an empty one", "all, alike", "some, alike", "some, a higher", "some, b higher",
		"none, alike", "none, a higher", "none, b higher")
}

// P20.1 and P20.2: a tree and each part of it that is a tree too, all of whose pages it
// shares: trees of unlike heights, the root of the one being beneath that of the other.
func TestP20_1Parts(t *testing.T) {
	t.Parallel()
	r := draw.Numbers(604)
	for height := 1; height <= 4; height++ {
		g := grove.Any(&r, height)
		s, _ := grove.Setting{Refs: 2, Lasting: 2}.Lay(&r, g)
		v, x := vaultOf(t, s), &regrowing{&r, g.Pages}
		for level, spots := range g.Levels {
			for k := 0; k < len(spots); k += 1 + len(spots)/20 {
				part := tree(spots[k].No, level+1, x.keys(spots[k].No))
				equal(t, "how many are lacking", len(couple{v, g.Tree, part, g}.tells(t, &r)), g.Tree.Items-part.Items)
				equal(t, "how many there are more", len(couple{v, part, g.Tree, g}.tells(t, &r)), g.Tree.Items-part.Items)
			}
		}
	}
}

// P20.1: a tree and its clone, one tree twice, and the empty tree.
func TestP20_1Alike(t *testing.T) {
	t.Parallel()
	r := draw.Numbers(602)
	for height := 1; height <= 5; height++ {
		c := siblings(t, &r, height, 0)
		equal(t, "the clone", c.a, c.b)
		equal(t, "how many differ", len(c.tells(t, &r)), 0)
		equalLists(t, "Read of a tree and its clone", read(t, c.v, c.a, c.b), nil)
		for _, kind := range []int{added, removed} {
			d := couple{c.v, empty, c.b, c.grown}
			if kind == removed {
				d.a, d.b = c.a, empty
			}
			l := d.tells(t, &r)
			equal(t, "how many differ", len(l), c.a.Items)
			for _, x := range l {
				equal(t, "the kind", x.Kind, kind)
			}
		}
	}
	v := newVault(t, 1, 2)
	equal(t, "how many differ between two empty trees", len(list(t, v, empty, empty, allKeys)), 0)
	equalLists(t, "Read of two empty trees", read(t, v, empty, empty), nil)
}

// P20.1: all trees of few keys, by all ranges of these keys and beside them.
func TestP20_1SmallTrees(t *testing.T) {
	t.Parallel()
	keys := []string{"\x00", "a", "a\x00", "b", "\xff\xff\xff\xff\xff\xff\xff\xff\xff\xff\xff\xff\xff\xff\xff\xff\xff\xff\xff\xff\xff\xff\xff\xff"}
	rows := append([]string{"", "`", "a\x01", "\xff"}, keys...)
	var sets [][]api.Pair
	for set := range 1 << len(keys) {
		for kind := range 2 {
			var l []api.Pair
			for k, key := range keys {
				if set>>k&1 == 1 {
					l = append(l, api.Pair{Key: []byte(key), Value: value(kind * (k % 2))})
				}
			}
			sets = append(sets, l)
		}
	}
	v := newVault(t, len(sets), 2)
	var trees []api.Tree
	for _, l := range sets {
		trees = append(trees, built(t, v, l))
	}
	for i, a := range trees {
		for k, b := range trees {
			want := modelList(sets[i], sets[k])
			equalChanges(t, "List", list(t, v, a, b, allKeys), want)
			lo, hi := rows[(i+k)%len(rows)], rows[i*k%len(rows)]
			for _, by := range []api.Range{span(lo, hi), from(lo), span(hi, lo)} {
				equalChanges(t, "List by "+text(by), list(t, v, a, b, by), in(want, by))
			}
		}
	}
}

// P20.1: a key that is in one tree alone, in both with the same value and in both with
// unlike values, of all lengths, the empty one among them.
func TestP20_1Values(t *testing.T) {
	t.Parallel()
	var values [][]byte
	for _, size := range grove.Sizes() {
		values = append(values, value(size))
		if size > 0 {
			values = append(values, turned(value(size), size-1), turned(value(size), 0))
		}
	}
	key := []byte("k")
	v := newVault(t, 30, 2)
	for _, old := range values {
		a := built(t, v, []api.Pair{{Key: key, Value: old}})
		for _, now := range values {
			mark := v.Mark()
			b := built(t, v, []api.Pair{{Key: key, Value: now}}) // on pages of its own, even if it is the same
			var want []api.Change
			if string(old) != string(now) {
				want = []api.Change{{Kind: changed, Key: key, Old: old, New: now}}
			}
			equalChanges(t, "List of both", list(t, v, a, b, allKeys), want)
			equal(t, "Undo", v.Undo(mark), true)
		}
		equalChanges(t, "List of a and none", list(t, v, a, empty, allKeys), []api.Change{{Kind: removed, Key: key, Old: old}})
		equalChanges(t, "List of none and a", list(t, v, empty, a, allKeys), []api.Change{{Kind: added, Key: key, New: old}})
		equal(t, "Drop", fork.Drop(v, a), 0)
	}
}

// P20.1: ranges at each key, between two, in which no key lies, and which are empty.
func TestP20_1Ranges(t *testing.T) {
	v := newVault(t, 200, 2)
	var a, b []api.Pair
	for k := range byte(60) { // the keys b, d, f and so on, twice each
		key := []byte{'b' + 2*(k/30), '0' + k%30*2}
		if k%3 > 0 {
			a = append(a, api.Pair{Key: key, Value: []byte{k}})
		}
		if k%5 > 0 {
			b = append(b, api.Pair{Key: key, Value: []byte{k - k%2}})
		}
	}
	x, y := built(t, v, a), built(t, v, b)
	equal(t, "the heights", fmt.Sprint(x.Height, y.Height), "2 2")
	want := modelList(a, b)
	var rows []string
	for _, first := range []string{"", "a", "b", "c", "d", "e"} {
		rows = append(rows, first)
		for k := range byte(62) {
			rows = append(rows, first+string([]byte{'0' + k - 1}))
		}
	}
	few := 0
	for k, lo := range rows {
		for n := range 12 {
			hi := rows[(k+n*n*n)%len(rows)]
			got := list(t, v, x, y, span(lo, hi))
			equalChanges(t, fmt.Sprintf("List by [%q, %q)", lo, hi), got, in(want, span(lo, hi)))
			if len(got) == 0 {
				few++
			}
		}
		equalChanges(t, fmt.Sprintf("List from %q on", lo), list(t, v, x, y, from(lo)), in(want, from(lo)))
		equalChanges(t, fmt.Sprintf("List below %q", lo), list(t, v, x, y, span("", lo)), in(want, span("", lo)))
		equal(t, fmt.Sprintf("List by [%q, %q)", lo, lo), len(list(t, v, x, y, span(lo, lo))), 0)
	}
	equal(t, "some ranges tell nothing", few > 100, true)
	equal(t, "List by no range", len(list(t, v, x, y, api.Range{})), 0)
	equalChanges(t, "List by an open range with an end", list(t, v, x, y, api.Range{Hi: []byte("b"), Open: true}), want)
}

// P20.1: trees of unlike heights with the same pairs do not differ.
func TestP20_1SamePairs(t *testing.T) {
	t.Parallel()
	r, unlike := draw.Numbers(603), 0
	for round := range 60 {
		g := grove.Any(&r, 1+round%4)
		s, _ := grove.Setting{Refs: 3, More: 900}.Lay(&r, g)
		v := vaultOf(t, s)
		x := built(t, v, g.Pairs)
		equal(t, "how many differ", len(couple{v, g.Tree, x, g}.tells(t, &r)), 0)
		if x.Height != g.Tree.Height {
			unlike++
		}
	}
	equal(t, "some are of unlike heights", unlike > 3, true)
}

// P20.1: of many keys, with few that differ.
func TestP20_1Great(t *testing.T) {
	t.Parallel()
	const keys = 60000
	var l []api.Pair
	for k := range keys {
		l = append(l, api.Pair{Key: fmt.Appendf(nil, "k%06d", k), Value: []byte{byte(k)}})
	}
	v := newVault(t, 30000, 9)
	a := built(t, v, l)
	b, e := fork.Clone(v, a)
	equal(t, "Clone", e, 0)
	for k := 0; k < keys; k += 1000 {
		key := fmt.Appendf(nil, "k%06d", k)
		b, _, e = put.Put(v, b, key, []byte("other"))
		equal(t, "Put", e, 0)
		equal(t, "how many differ at the key", len(list(t, v, a, b, api.Range{Lo: key, Hi: append(slices.Clip(key), 0)})), 1)
		equal(t, "how many differ", len(list(t, v, a, b, allKeys)), k/1000+1)
	}
	equal(t, "how many pages are read", len(read(t, v, a, b)) < 1000, true)
	equalChanges(t, "List", list(t, v, a, b, allKeys), modelList(l, pairs(t, v, b)))
	equal(t, "how many differ from a tree that shares nothing", len(list(t, v, a, built(t, v, l), allKeys)), 0)
}
