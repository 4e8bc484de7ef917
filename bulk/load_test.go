package bulk_test

import (
	"bytes"
	"fmt"
	"slices"
	"testing"

	"coppice/api"
	"coppice/bulk"
	"coppice/draw"
	"coppice/fork"
	"coppice/grove"
	"coppice/vault"
)

// loadsNot is a Load that must answer this error, and change nothing.
func loadsNot(t *testing.T, v *vault.Vault, x api.Tree, l []api.Pair, want api.Errno) {
	t.Helper()
	unchanged(t, v, func() {
		y, n, e := bulk.Load(v, x, l)
		equal(t, fmt.Sprintf("Load of %d pairs into %v", len(l), x), fmt.Sprint(y, n, e), fmt.Sprint(empty, 0, want))
	})
}

// someValue is a value of any kind, mostly a short one.
func someValue(r *draw.Numbers) []byte {
	sizes := grove.Sizes()
	switch r.Below(8) {
	case 0:
		return value(sizes[r.Below(len(sizes))])
	case 1, 2:
		return value(r.Below(2 * chunk))
	}
	return value(r.Below(inline + 1))
}

// somePairs is n pairs in no order, of keys of a tree, of others, and of some twice.
func somePairs(r *draw.Numbers, g *grove.Grown, n int) []api.Pair {
	var l []api.Pair
	for range n {
		x := api.Pair{Key: grove.Key(r), Value: someValue(r)}
		switch {
		case len(l) > 0 && r.Below(5) == 0:
			x.Key = l[r.Below(len(l))].Key
		case r.Below(3) == 0:
			x.Key = g.SomeKey(r)
		}
		l = append(l, x)
	}
	return l
}

// where is at which one of several steps it was.
func where(at, of int) string {
	switch {
	case of < 3:
		return "of few"
	case at == 0:
		return "at the first"
	case at == of-1:
		return "at the last"
	}
	return "at a middle one"
}

// Into trees of all kinds, in all settings.
func TestP18_4AnyTree(t *testing.T) {
	t.Parallel()
	r, met := draw.Numbers(411), met{}
	for round := range 900 {
		g := grove.Grow(&r, nil, grove.Few)
		if height := round % 4; height > 0 {
			g = grove.Any(&r, height)
		}
		c := grove.Settings(&r)
		if round%3 > 0 {
			c.More = 30 + r.Below(100)
		}
		s, trees := c.Lay(&r, g)
		v := vaultOf(t, s)
		l := somePairs(&r, g, r.Below(20))
		came := loads(t, v, trees[0], l, trees[1:]...)
		met[fmt.Sprintf("height %d, error %d", g.Tree.Height, came.e)]++
		if came.e != 0 {
			met[fmt.Sprintf("error %d %s", came.e, where(came.at, len(l)))]++
		}
		if came.e == 0 && came.n < len(l) && came.n > 0 {
			met["some were there, others not"]++
		}
	}
	met.wants(t, 50, "height 0, error 0", "height 1, error 0", "height 2, error 0", "height 3, error 0", "some were there, others not")
	met.wants(t, 5, "error 12 at the first", "error 12 at a middle one", "error 12 at the last", "error 13 at the first", "error 13 at a middle one")
}

// Many pairs, so that pages are split at all levels.
func TestP18_4Many(t *testing.T) {
	t.Parallel()
	r := draw.Numbers(412)
	for round := range 12 {
		g := grove.Any(&r, 1+round%3)
		s, trees := grove.Setting{Refs: 3, Clones: round % 2, More: 900, Lasting: round % 5}.Lay(&r, g)
		v := vaultOf(t, s)
		l := somePairs(&r, g, 300)
		came := loads(t, v, trees[0], l, trees[1:]...)
		equal(t, "Load", came.e, 0)
		came = loads(t, v, came.tree, slices.Concat(l, l), trees[1:]...)
		equal(t, "once more, all of it twice", fmt.Sprint(came.n, came.e), fmt.Sprint(0, api.OK))
	}
}

// No pairs: the tree as it is.
func TestP18_4OfNone(t *testing.T) {
	r := draw.Numbers(413)
	for round := range 30 {
		s, trees := grove.Settings(&r).Lay(&r, grove.Any(&r, 1+round%3))
		v := vaultOf(t, s)
		for _, none := range [][]api.Pair{nil, {}, letters("abc")[:0]} {
			for _, x := range []api.Tree{empty, trees[0]} {
				unchanged(t, v, func() {
					y, n, e := bulk.Load(v, x, none)
					equal(t, "Load of none", fmt.Sprint(y, n, e), fmt.Sprint(x, 0, api.OK))
				})
			}
		}
	}
}

// A pair that cannot be put in at each place: pairs ahead of it are put in first, so that
// their errors come first, and pairs behind it are not looked at.
func TestP18_4KeyAndValue(t *testing.T) {
	t.Parallel()
	r := draw.Numbers(414)
	for round := range 18 {
		g := grove.Any(&r, 1+round%3)
		s, trees := grove.Setting{Refs: 4, Clones: round % 2, More: 200, Lasting: round % 5}.Lay(&r, g)
		v := vaultOf(t, s)
		n := 3 + r.Below(20)
		for _, at := range []int{0, 1, n / 2, n - 1} {
			for _, c := range []struct {
				x    api.Pair
				want api.Errno
			}{
				{api.Pair{}, errKey}, {pair("", maxValue+1), errKey}, {api.Pair{Key: make([]byte, maxKey+1)}, errKey},
				{api.Pair{Key: make([]byte, maxKey+1), Value: value(maxValue + 1)}, errKey},
				{pair("a", maxValue+1), errValue}, {api.Pair{Key: g.Pairs[0].Key, Value: value(9999)}, errValue},
			} {
				l := somePairs(&r, g, n)
				for k := range l {
					l[k].Value = value(k)
				}
				l[at] = c.x
				if behind := at + 1 + r.Below(3); behind < n { // a fault behind it does not matter
					l[behind] = []api.Pair{pair("", 0), pair("b", maxValue+1)}[r.Below(2)]
				}
				loadsNot(t, v, trees[0], l, c.want)
				loadsNot(t, v, empty, l, c.want)
				mark := v.Mark()
				loads(t, v, trees[0], l[:at], trees[1:]...)
				v.Undo(mark)
			}
		}
	}
}

// With each number of free pages: where it ends, put tells.
func TestP18_4Room(t *testing.T) {
	t.Parallel()
	r, met := draw.Numbers(415), met{}
	for round := range 40 {
		g := grove.Any(&r, 1+round%3)
		s, trees := grove.Setting{Refs: 4, Clones: round % 2, More: 80, Lasting: []int{0, 4, 2}[round%3]}.Lay(&r, g)
		l := somePairs(&r, g, 3+r.Below(4))
		x, others := trees[0], trees[1:]
		if round%8 == 7 {
			x, others = empty, trees
		}
		for n := 0; ; n++ {
			left := s.Copy()
			left.Leave(&r, n)
			came := loads(t, vaultOf(t, left), x, l, others...)
			if came.e == 0 {
				met["in the end it is done"]++
				break
			}
			met[fmt.Sprintf("error %d %s", came.e, where(came.at, len(l)))]++
		}
	}
	met.wants(t, 40, "in the end it is done")
	met.wants(t, 20, "error 12 at the first", "error 12 at a middle one", "error 12 at the last")
}

// A leaf that is shared, whose value's page is at Refs: what is put into it cannot be done,
// be it the first pair, one in the middle or the last.
func TestP18_4Refs(t *testing.T) {
	leaf := func(keys string, child int) api.Page {
		p := api.Page{Kind: leafKind}
		for _, k := range []byte(keys) {
			p.Items = append(p.Items, api.Item{Key: []byte{k}})
		}
		p.Items[0] = api.Item{Key: p.Items[0].Key, Size: 40, Child: child}
		return p
	}
	pages := []api.Page{leaf("abcd", 4), leaf("mnop", 5),
		{Kind: indexKind, Level: 1, Items: []api.Item{{Child: 1}, {Key: []byte("m"), Child: 2}}},
		{Kind: blobKind, Data: value(40)}, {Kind: blobKind, Data: value(40)}}
	for lasts := range 2 {
		s := grove.StoreOf(3, pages, 9)
		s.Counts[1], s.Counts[4] = 2, 3
		for k := range pages {
			s.Lasts[k] = lasts
		}
		x := tree(3, 2, 8)
		for _, c := range []struct {
			keys string
			want api.Errno
			at   int
		}{
			{"abcdefgh", 0, 0}, {"m", errRefs, 0}, {"mabc", errRefs, 0}, {"abmcd", errRefs, 2}, {"abcdz", errRefs, 4}, {"q", errRefs, 0}, {"efq", errRefs, 2},
		} {
			v := vaultOf(t, s)
			came := loads(t, v, x, letters(c.keys))
			equal(t, "Load of "+c.keys, fmt.Sprint(came.e, came.at), fmt.Sprint(c.want, c.at))
			if c.want != 0 {
				loadsNot(t, v, x, letters(c.keys), c.want)
				loadsNot(t, v, x, append([]api.Pair{pair("", 1)}, letters(c.keys)...), errKey)
				loadsNot(t, v, x, append(letters(c.keys), pair("", 1)), c.want)
			}
		}
	}
}

// Marks that were made ahead of a Load are good behind it, whether it is done or refused.
func TestP18_4Marks(t *testing.T) {
	t.Parallel()
	r, seen := draw.Numbers(416), map[api.Errno]int{}
	for round := range 40 {
		g := grove.Any(&r, 1+round%3)
		s, _ := grove.Setting{Refs: 2, More: 10 + r.Below(30), Lasting: r.Below(5), Shared: r.Below(2)}.Lay(&r, g)
		v, x := vaultOf(t, s), g.Tree
		var ahead marks
		for range 12 {
			ahead.add(v)
			l := somePairs(&r, g, r.Below(9))
			if len(l) > 0 && r.Below(4) == 0 {
				l[r.Below(len(l))] = []api.Pair{pair("", 0), pair("b", maxValue+1)}[r.Below(2)]
			}
			came := loads(t, v, x, l)
			if seen[came.e]++; came.e == 0 {
				x = came.tree
			}
		}
		ahead.good(t, v)
	}
	for _, e := range []api.Errno{0, errKey, errValue, errSpace, errRefs} {
		equal(t, fmt.Sprint(e, " is met"), seen[e] > 5, true)
	}
}

// A clone, and trees that share some pages, stay as they were when one is loaded into.
func TestP18_6OthersBehindLoad(t *testing.T) {
	t.Parallel()
	r := draw.Numbers(417)
	for round := range 60 {
		g := grove.Any(&r, 1+round%3)
		s, _ := grove.Setting{Refs: 9, More: 400, Lasting: round % 5}.Lay(&r, g)
		v := vaultOf(t, s)
		trees := []api.Tree{g.Tree}
		for range 3 { // each one is a clone of the one ahead, into which some pairs are put
			x, e := fork.Clone(v, trees[len(trees)-1])
			equal(t, "Clone", e, 0)
			came := loads(t, v, x, somePairs(&r, g, 1+r.Below(8)), trees...)
			equal(t, "Load", came.e, 0)
			trees = append(trees, came.tree)
			if r.Below(3) == 0 {
				v.Settle()
			}
		}
		counts, e := fork.Counts(v, trees...)
		equal(t, "Counts", e, 0)
		equal(t, "the counts are right", slices.Equal(counts, v.Counts()), true)
	}
}

// Into the empty tree, and built of the last value of each key: the same pairs.
func TestP18_6LoadAndBuild(t *testing.T) {
	t.Parallel()
	r := draw.Numbers(418)
	for round := range 60 {
		g := grove.Any(&r, 1+round%2)
		l := somePairs(&r, g, r.Below(150))
		v := newVault(t, 2000, 2)
		came := loads(t, v, empty, l)
		equal(t, "Load", came.e, 0)
		x, e := builds(t, v, lastValues(l), came.tree)
		equal(t, "Build", e, 0)
		equal(t, "the pairs of both", told(pairs(t, v, x)), told(pairs(t, v, came.tree)))
		equal(t, "Items", x.Items, came.tree.Items)
		equal(t, "as many as were not there", came.n, x.Items)
		slices.SortStableFunc(l, func(a, b api.Pair) int { return bytes.Compare(a.Key, b.Key) })
		sorted := loads(t, v, empty, l, came.tree, x)
		equal(t, "the pairs, put in by rising keys", told(pairs(t, v, sorted.tree)), told(pairs(t, v, x)))
	}
}
