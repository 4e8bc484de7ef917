package cursor_test

import (
	"fmt"
	"testing"

	"coppice/api"
	"coppice/draw"
	"coppice/fork"
	"coppice/grove"
	"coppice/put"
	"coppice/vault"
)

// gone is a tree that is not there.
func gone(x api.Tree) known { return known{tree: x, gone: true} }

// staysGone: a call finds the tree gone: it answers false, and so do all calls behind it;
// Err is ErrPage from then on.
func staysGone(t *testing.T, h *held, first int, row []byte) {
	t.Helper()
	calls := h.calls(row)
	equal(t, calls[first].name+" of a tree that is gone", calls[first].do(), false)
	for range 2 {
		for _, c := range calls {
			equal(t, c.name+" behind "+calls[first].name, c.do(), false)
			equal(t, "Err", h.c.Err(), errPage)
		}
	}
}

// P19.6: Err is OK of a cursor whose tree stands, whatever it is asked, and behind it.
func TestP19_6OK(t *testing.T) {
	t.Parallel()
	scenes(t, 521, 3, func(r *draw.Numbers, v *vault.Vault, g *grove.Grown) {
		h := hold(t, v, of(g))
		for range 60 {
			h.any(r, g.SomeKey(r))
			equal(t, "Err", h.c.Err(), 0)
		}
	})
}

// P19.6: each call, from every kind of place, finds that the tree is gone; the place stays,
// and up to the next Move nothing is done, also when the tree is there again.
func TestP19_6EachCall(t *testing.T) {
	t.Parallel()
	states := met{}
	for lasting := range 2 {
		for first := range 6 {
			for _, began := range []place{{side: ahead}, {at, "a"}, {at, "f"}, {at, "ff"}, {at, "m"}, {side: behind}} {
				v := newVault(t, 30, 9)
				x := built(t, v, letters("abcdefghijklm"))
				if lasting == 1 {
					v.Settle()
				}
				h := hold(t, v, x)
				h.to(v, began)
				there := v.Mark()
				equal(t, "Drop", fork.Drop(v, x.tree), 0)
				states[fmt.Sprint(v.State(x.tree.Root))]++
				h.m.of = gone(x.tree)
				equal(t, "Err ahead of a call", h.c.Err(), 0)
				staysGone(t, h, first, []byte("c"))

				v.Undo(there)
				equal(t, "the count of the root", v.Count(x.tree.Root), 1)
				h.m.of = x // it stands again
				staysGone(t, h, first, []byte("c"))

				h.move(x)
				equal(t, "the place", h.m.place, began)
				equal(t, "Err behind Move", h.c.Err(), 0)
				h.tells(v)
			}
		}
	}
	states.wants(t, 30, fmt.Sprint(free), fmt.Sprint(pending))
}

// P19.6: so long as no call looks into the tree, it does not matter that it is gone.
func TestP19_6NobodyLooked(t *testing.T) {
	for first := range 6 {
		v := newVault(t, 30, 9)
		x := built(t, v, letters("abcdefghijklm"))
		h := hold(t, v, x)
		h.seek([]byte("f"))
		there := v.Mark()
		equal(t, "Drop", fork.Drop(v, x.tree), 0)
		for range 3 {
			equal(t, "Err", h.c.Err(), 0)
		}
		v.Undo(there)
		h.calls([]byte("c"))[first].do()
		h.tells(v)
	}
}

// P19.6: a page that was given back and handed out again, for another tree.
func TestP19_6HandedOutAgain(t *testing.T) {
	for first := range 6 {
		v := newVault(t, 1, 2)
		x := built(t, v, letters("bdf"))
		h := hold(t, v, x)
		h.seek([]byte("d"))
		equal(t, "Drop", fork.Drop(v, x.tree), 0)
		h.m.of = gone(x.tree)
		staysGone(t, h, first, []byte("c"))
		y := built(t, v, letters("acd"))
		equal(t, "the same page", y.tree, x.tree)
		h.m.of = y
		staysGone(t, h, first, []byte("c"))
		h.move(y)
		equal(t, "At", h.key(), "d")
		equal(t, "Prev", fmt.Sprint(h.prev(), h.key()), fmt.Sprint(true, "c"))
	}
}

// P19.6: a new cursor of a tree that is gone, or Move to one: Err is OK up to the first
// call; and so again behind each Move.
func TestP19_6FromTheBeginning(t *testing.T) {
	v := newVault(t, 9, 2)
	x := built(t, v, letters("bdf"))
	y := built(t, v, letters("bdf"))
	equal(t, "Drop", fork.Drop(v, y.tree), 0)
	for _, root := range []int{y.tree.Root, 3, 9, 10, 11, 65536, 65537, -1, lowest, greatest} {
		for _, height := range []int{1, 2, 12, 0, -1, greatest} {
			for first := range 6 {
				h := hold(t, v, gone(tree(root, height, 3)))
				staysGone(t, h, first, []byte("c"))
				h.move(gone(tree(root, height, 3)))
				equal(t, "Err behind Move", h.c.Err(), 0)
				staysGone(t, h, first, []byte("c"))
				h.move(x)
				equal(t, "Next: it was ahead of all still", fmt.Sprint(h.next(), h.key()), fmt.Sprint(true, "b"))
				h.move(gone(tree(root, height, 3)))
				staysGone(t, h, first, nil)
				h.move(nothing())
				h.tells(v)
				h.move(x)
				equal(t, "At", h.key(), "b")
			}
		}
	}
}

// P19.6: a tree is there so long as its root has a count, who ever leads to it: when one of
// two clones is dropped, and when a tree is shadowed.
func TestP19_6Clones(t *testing.T) {
	v := newVault(t, 30, 9)
	x := built(t, v, letters("abcdefghijklm"))
	h := hold(t, v, x)
	h.seek([]byte("f"))
	clone, e := fork.Clone(v, x.tree)
	equal(t, "Clone", e, 0)
	equal(t, "Drop", fork.Drop(v, clone), 0)
	h.tells(v)
	v.Settle()
	z, _, e := put.Put(v, x.tree, []byte("fa"), []byte("new"))
	equal(t, "Put", e, 0)
	equal(t, "the root is pending", v.State(x.tree.Root), pending)
	h.m.of = gone(x.tree)
	staysGone(t, h, 0, nil)
	h.move(known{tree: z, pairs: with(x.pairs, api.Pair{Key: []byte("fa"), Value: []byte("new")})})
	equal(t, "At", h.key(), "f")
	equal(t, "Next", fmt.Sprint(h.next(), h.key()), fmt.Sprint(true, "fa"))
}

// P19.6: of two cursors of a tree each finds by itself that it is gone.
func TestP19_6EachForItself(t *testing.T) {
	v := newVault(t, 9, 2)
	x := built(t, v, letters("bdf"))
	a, b, c := hold(t, v, x), hold(t, v, x), hold(t, v, x)
	a.seek([]byte("d"))
	b.last()
	there := v.Mark()
	equal(t, "Drop", fork.Drop(v, x.tree), 0)
	a.m.of, b.m.of = gone(x.tree), gone(x.tree)
	staysGone(t, a, 0, nil)
	equal(t, "Err of the others", fmt.Sprint(b.c.Err(), c.c.Err()), fmt.Sprint(api.OK, api.OK))
	staysGone(t, b, 5, nil)
	v.Undo(there)
	a.m.of, b.m.of = x, x
	staysGone(t, a, 0, nil)
	c.tells(v)
	equal(t, "Next of the one that did not look", fmt.Sprint(c.next(), c.key()), fmt.Sprint(true, "b"))
	b.move(x)
	equal(t, "At of the one that has moved", b.key(), "f")
	staysGone(t, a, 5, nil)
}

// P19.6: dropping a tree of several levels beneath cursors at each of its places.
func TestP19_6EveryPlace(t *testing.T) {
	t.Parallel()
	r := draw.Numbers(522)
	for height := 1; height <= 3; height++ {
		g := grove.Any(&r, height)
		s, _ := grove.Setting{Refs: 3, More: 5, Lasting: height}.Lay(&r, g)
		v, x := vaultOf(t, s), of(g)
		for _, p := range places(&r, g, 2) {
			h := hold(t, v, x)
			h.to(v, p)
			there := v.Mark()
			equal(t, "Drop", fork.Drop(v, x.tree), 0)
			h.m.of = gone(x.tree)
			staysGone(t, h, r.Below(6), g.SomeKey(&r))
			v.Undo(there)
			h.move(x)
			equal(t, "the place", h.m.place, p)
			h.tells(v)
		}
	}
}

// P19.10: several cursors of one tree in turns: each is where its own calls have led it.
func TestP19_10InTurns(t *testing.T) {
	t.Parallel()
	scenes(t, 523, 3, func(r *draw.Numbers, v *vault.Vault, g *grove.Grown) {
		l := []*held{hold(t, v, of(g)), hold(t, v, of(g)), hold(t, v, of(g))}
		for range 200 {
			l[r.Below(len(l))].any(r, g.SomeKey(r))
		}
		for _, h := range l {
			h.tells(v)
		}
		on, back := hold(t, v, of(g)), hold(t, v, of(g))
		back.last()
		for k := range g.Pairs {
			on.next()
			equal(t, "on", on.key(), string(g.Pairs[k].Key))
			equal(t, "back", back.key(), string(g.Pairs[len(g.Pairs)-1-k].Key))
			back.prev()
		}
	})
}

// P19.10: no call changes anything in the vault, with a tree that stands or one that is
// gone.
func TestP19_10NothingChanges(t *testing.T) {
	t.Parallel()
	r := draw.Numbers(524)
	for round := range 30 {
		g := grove.Any(&r, 1+round%3)
		s, _ := grove.Settings(&r).Lay(&r, g)
		v := vaultOf(t, s)
		asksAll := func(x known) {
			var h *held
			unchanged(t, v, func() { h = hold(t, v, x) })
			for range 3 {
				for _, c := range h.calls(g.SomeKey(&r)) {
					unchanged(t, v, func() { c.do() })
					unchanged(t, v, func() { h.c.Err() })
				}
			}
			unchanged(t, v, func() { h.move(nothing()) })
			unchanged(t, v, func() { h.move(x) })
			unchanged(t, v, func() { h.any(&r, nil) })
		}
		asksAll(of(g))
		for v.Count(g.Tree.Root) > 0 {
			equal(t, "Drop", v.Drop(g.Tree.Root), 0)
		}
		asksAll(gone(g.Tree))
	}
}
