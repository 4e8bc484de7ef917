package cursor_test

import (
	"bytes"
	"fmt"
	"testing"

	"coppice/api"
	"coppice/cursor"
	"coppice/cut"
	"coppice/draw"
	"coppice/fork"
	"coppice/grove"
	"coppice/put"
	"coppice/vault"
)

// scenes is trees of all heights and kinds, each in a vault among other pages, in which
// some are free still.
func scenes(t *testing.T, from draw.Numbers, height int, do func(r *draw.Numbers, v *vault.Vault, g *grove.Grown)) {
	t.Helper()
	for _, g := range grove.Trees(&from, height) {
		set := grove.Settings(&from)
		s, _ := set.Lay(&from, g)
		for s.Tally(free) < 4 {
			set.More++
			s, _ = set.Lay(&from, g)
		}
		do(&from, vaultOf(t, s), g)
	}
}

// places is every place that a tree has: ahead of all, at each key, behind all; and some
// at keys that are not there.
func places(r *draw.Numbers, g *grove.Grown, more int) []place {
	l := []place{{side: ahead}, {side: behind}}
	for _, x := range g.Pairs {
		l = append(l, place{at, string(x.Key)})
	}
	for _, row := range g.Rows(r, more) {
		if _, is := g.Get(row); !is && len(row) > 0 && len(row) <= maxKey {
			l = append(l, place{at, string(row)})
		}
	}
	return l
}

// The rows of the chapter's table, one behind the other.
func TestExamples(t *testing.T) {
	v := newVault(t, 20, 9)
	b := built(t, v, []api.Pair{{Key: []byte("b"), Value: []byte("B")}, {Key: []byte("d"), Value: []byte("D")}, {Key: []byte("f"), Value: []byte("F")}})
	clone, e := fork.Clone(v, b.tree)
	equal(t, "Clone", e, 0)
	u, had, e := cut.Cut(v, clone, []byte("d"))
	equal(t, "Cut", fmt.Sprint(had, e), fmt.Sprint(true, api.OK))
	c := cursor.New(v, b.tree)
	at := func() string {
		x, is := c.At()
		if !is {
			return "no pair" + string(x.Key) + string(x.Value)
		}
		return string(x.Key) + string(x.Value)
	}
	moved := func(x api.Tree) string {
		c.Move(x)
		return ".."
	}
	dropped := func() string { return fmt.Sprint(fork.Drop(v, b.tree), v.Count(b.tree.Root)) }
	seek := func(row string) bool { return c.Seek([]byte(row)) }
	for k, row := range []struct {
		got  func() []any
		want []any
	}{
		{func() []any { return []any{at(), c.Next(), at(), c.Prev(), c.Prev(), c.Next(), at()} },
			[]any{"no pair", true, "bB", false, false, true, "bB"}},
		{func() []any {
			return []any{seek("c"), at(), seek("d"), seek("g"), at(), c.Next(), c.Prev(), at()}
		}, []any{true, "dD", true, false, "no pair", false, true, "fF"}},
		{func() []any { return []any{seek("d"), moved(u), at(), c.Next(), at()} },
			[]any{true, "..", "no pair", true, "fF"}},
		{func() []any { return []any{seek("c"), at(), c.Prev(), at(), moved(b.tree), c.Next(), at()} },
			[]any{true, "fF", true, "bB", "..", true, "dD"}},
		{func() []any {
			return []any{c.Seek(nil), at(), c.First(), c.Last(), c.Next(), c.Next(), c.Prev(), at()}
		}, []any{true, "bB", true, true, false, false, true, "fF"}},
		{func() []any {
			return []any{dropped(), at(), c.Err(), c.Next(), moved(empty), c.Err(), c.Next(), c.Err()}
		}, []any{fmt.Sprint(api.OK, 0), "no pair", api.ErrPage, false, "..", api.OK, false, api.OK}},
	} {
		equal(t, fmt.Sprintf("row %d", k+1), fmt.Sprint(row.got()), fmt.Sprint(row.want))
	}
}

// P19.1: a new cursor is ahead of all, whatever the tree is: At tells nothing, Prev
// nothing, Next the first key.
func TestP19_1New(t *testing.T) {
	t.Parallel()
	scenes(t, 501, 4, func(r *draw.Numbers, v *vault.Vault, g *grove.Grown) {
		for first := range 6 {
			h := hold(t, v, of(g))
			h.calls(g.SomeKey(r))[first].do()
			h.tells(v)
		}
		h := hold(t, v, of(g))
		equal(t, "Next", h.next(), len(g.Pairs) > 0)
		if len(g.Pairs) > 0 {
			equal(t, "the first key", h.key(), string(g.Pairs[0].Key))
		}
	})
}

// P19.1: trees of no key, and of one.
func TestP19_1Small(t *testing.T) {
	for _, size := range []int{0, 1, inline, inline + 1, chunk, chunk + 1, maxValue} {
		v := newVault(t, 12, 2)
		for _, key := range edges() {
			x := built(t, v, []api.Pair{{Key: key, Value: grove.Value(size)}})
			for first := range 6 {
				h := hold(t, v, x)
				h.calls(key)[first].do()
				h.at()
				equal(t, "Next ahead of it, Prev behind it", fmt.Sprint(hold(t, v, x).next(), h.last()), "true true")
				equal(t, "Next behind it", h.next(), false)
				equal(t, "Prev", h.prev(), true)
				equal(t, "Prev ahead of it", h.prev(), false)
			}
			equal(t, "Drop", v.Drop(x.tree.Root), 0)
		}
	}
	v := newVault(t, 1, 2)
	h := hold(t, v, nothing())
	for range 3 {
		for _, c := range h.calls([]byte("a")) {
			equal(t, c.name+" of the empty tree", c.do(), false)
			equal(t, "Err", h.c.Err(), 0)
		}
	}
}

// P19.2: Next and Prev from every place of a tree, and from places beside its keys.
func TestP19_2FromEveryPlace(t *testing.T) {
	t.Parallel()
	met := met{}
	scenes(t, 502, 3, func(r *draw.Numbers, v *vault.Vault, g *grove.Grown) {
		h := hold(t, v, of(g))
		for _, p := range places(r, g, 5) {
			h.to(v, p)
			met[fmt.Sprint("next ", h.next())]++
			h.at()
			h.to(v, p)
			met[fmt.Sprint("prev ", h.prev())]++
			h.at()
		}
	})
	met.wants(t, 20, "next true", "next false", "prev true", "prev false")
}

// P19.2: Next behind all and Prev ahead of all stay there, however often they are asked.
func TestP19_2AtTheEnds(t *testing.T) {
	t.Parallel()
	scenes(t, 503, 3, func(r *draw.Numbers, v *vault.Vault, g *grove.Grown) {
		h := hold(t, v, of(g))
		for range 4 {
			equal(t, "Prev ahead of all", h.prev(), false)
			equal(t, "At ahead of all", h.key(), "")
		}
		for range len(g.Pairs) {
			equal(t, "Next", h.next(), true)
		}
		for range 4 {
			equal(t, "Next behind all", h.next(), false)
			equal(t, "At behind all", h.key(), "")
		}
		for k := len(g.Pairs) - 1; k >= 0; k-- {
			equal(t, "Prev", h.prev(), true)
			equal(t, "the key", h.key(), string(g.Pairs[k].Key))
		}
		equal(t, "Prev of the first key", h.prev(), false)
	})
}

// P19.2, P19.3: every tree of some of the keys that come next to one another as near as
// keys can, and every place among them: in the tree, or not.
func TestP19_2EveryTree(t *testing.T) {
	t.Parallel()
	all := edges()
	for begin := 0; begin+7 <= len(all); begin++ {
		keys, v := all[begin:begin+7], newVault(t, 8, 2)
		for set := range 1 << len(keys) {
			var l []api.Pair
			for k, key := range keys {
				if set>>k&1 == 1 {
					l = append(l, api.Pair{Key: key, Value: []byte{byte(k)}})
				}
			}
			x := built(t, v, l)
			h := hold(t, v, x)
			h.tells(v)
			for _, key := range keys {
				h.seek(key)
				h.at()
				h.to(v, place{at, string(key)})
				h.tells(v)
			}
			h.to(v, place{side: behind})
			h.tells(v)
			v.Undo(0)
		}
	}
}

// P19.3: Seek of rows at and beside every key and separator, of rows that are no keys, of
// no bytes; from any place.
func TestP19_3Seek(t *testing.T) {
	t.Parallel()
	met := met{}
	scenes(t, 504, 4, func(r *draw.Numbers, v *vault.Vault, g *grove.Grown) {
		h := hold(t, v, of(g))
		for _, row := range g.Rows(r, 60) {
			found := h.seek(row)
			x, is := h.at()
			equal(t, "At behind Seek", is, found)
			if found && bytes.Equal(x.Key, row) {
				met["there"]++
			} else {
				met[fmt.Sprint(found, len(row) > maxKey)]++
			}
			for range r.Below(3) {
				h.any(r, row)
			}
		}
		for _, x := range g.Pairs {
			equal(t, "Seek of a key that is there", h.seek(x.Key), true)
			equal(t, "the key", h.key(), string(x.Key))
		}
	})
	met.wants(t, 50, "there", "true false", "false false", "true true", "false true")
}

// P19.3: behind Seek the place is at the key that was found, or behind all, wherever it
// was: Next and Prev go from there.
func TestP19_3BehindSeek(t *testing.T) {
	t.Parallel()
	scenes(t, 505, 3, func(r *draw.Numbers, v *vault.Vault, g *grove.Grown) {
		h := hold(t, v, of(g))
		for _, row := range g.Rows(r, 5) {
			for _, do := range []func() bool{h.next, h.prev} {
				h.any(r, g.SomeKey(r))
				h.seek(row)
				do()
				h.at()
				do()
				h.at()
			}
		}
	})
}

// P19.3: First and Last from every place.
func TestP19_3FirstAndLast(t *testing.T) {
	t.Parallel()
	scenes(t, 506, 3, func(r *draw.Numbers, v *vault.Vault, g *grove.Grown) {
		h, n := hold(t, v, of(g)), len(g.Pairs)
		for _, p := range places(r, g, 3) {
			h.to(v, p)
			equal(t, "First", h.first(), n > 0)
			h.at()
			equal(t, "Prev behind First", h.prev(), false)
			h.to(v, p)
			equal(t, "Last", h.last(), n > 0)
			h.at()
			equal(t, "Next behind Last", h.next(), false)
			if n > 0 {
				h.first()
				equal(t, "the first key", h.key(), string(g.Pairs[0].Key))
				h.last()
				equal(t, "the last key", h.key(), string(g.Pairs[n-1].Key))
			}
		}
		h.first()
		h.tells(v)
		h.last()
		h.tells(v)
	})
}

// P19.3: where there is no key First leads behind all, as Next does, and Last ahead of all,
// as Prev does.
func TestP19_3OfTheEmptyTree(t *testing.T) {
	v := newVault(t, 9, 2)
	some := built(t, v, letters("bd"))
	for _, c := range []struct {
		name       string
		do         func(*held) bool
		next, prev string
	}{
		{"First", (*held).first, "", "d"}, {"Next", (*held).next, "", "d"}, {"Seek", func(h *held) bool { return h.seek(nil) }, "", "d"},
		{"Last", (*held).last, "b", ""}, {"Prev", (*held).prev, "b", ""},
	} {
		for _, began := range []place{{side: ahead}, {side: behind}, {at, "b"}, {at, "c"}} {
			for _, on := range []bool{true, false} {
				h := hold(t, v, some)
				h.to(v, began)
				h.move(nothing())
				equal(t, c.name+" of the empty tree", c.do(h), false)
				h.move(some)
				if on {
					equal(t, "Next behind "+c.name, fmt.Sprint(h.next(), h.key()), fmt.Sprint(c.next != "", c.next))
				} else {
					equal(t, "Prev behind "+c.name, fmt.Sprint(h.prev(), h.key()), fmt.Sprint(c.prev != "", c.prev))
				}
			}
		}
	}
}

// P19.4: At tells the key and its value, short and long, and stays where it is.
func TestP19_4Values(t *testing.T) {
	t.Parallel()
	v := newVault(t, 100, 2)
	var l []api.Pair
	for k, size := range grove.Sizes() {
		l = append(l, api.Pair{Key: []byte{byte(k + 1)}, Value: grove.Value(size)})
	}
	h := hold(t, v, built(t, v, l))
	for _, x := range l {
		equal(t, "Next", h.next(), true)
		for range 3 {
			p, is := h.c.At()
			equal(t, "At", is, true)
			equal(t, "the pair", told(p), told(x))
		}
	}
}

// P19.4: no pair at a place that is at no key of the tree: ahead of all, behind all, at
// a key that is not there (any more); and the place stays.
func TestP19_4NoPair(t *testing.T) {
	t.Parallel()
	met := met{}
	scenes(t, 507, 3, func(r *draw.Numbers, v *vault.Vault, g *grove.Grown) {
		h := hold(t, v, of(g))
		for _, p := range places(r, g, 6) {
			h.to(v, p)
			for range 2 {
				x, is := h.at()
				_, wants := g.Get([]byte(p.key))
				equal(t, "At", is, p.side == at && wants)
				if !is && (x.Key != nil || x.Value != nil) {
					t.Fatalf("beside false: %s", told(x))
				}
				met[fmt.Sprint(p.side, is)]++
			}
			h.tells(v)
		}
	})
	met.wants(t, 10, fmt.Sprint(ahead, false), fmt.Sprint(behind, false), fmt.Sprint(at, false), fmt.Sprint(at, true))
}

// P19.4: the value is the one that the key has when At is asked.
func TestP19_4AnotherValue(t *testing.T) {
	v := newVault(t, 60, 2)
	x := built(t, v, letters("abcdefghijklm"))
	h := hold(t, v, x)
	h.seek([]byte("f"))
	for _, size := range []int{3, maxValue, 0, 500} {
		value := grove.Value(size)
		y, _, e := put.Put(v, x.tree, []byte("f"), value)
		equal(t, "Put", e, 0)
		equal(t, "the same root", y, x.tree) // so the cursor's tree stands still
		h.m.of.pairs = with(x.pairs, api.Pair{Key: []byte("f"), Value: value})
		h.tells(v)
		got, _ := h.at()
		equal(t, "the value", string(got.Value), string(value))
	}
}
