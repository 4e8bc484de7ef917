package cursor_test

import (
	"fmt"
	"slices"
	"testing"

	"coppice/api"
	"coppice/cursor"
	"coppice/cut"
	"coppice/draw"
	"coppice/fork"
	"coppice/grove"
	"coppice/put"
	"coppice/vault"
	"coppice/view"
)

// P19.7: from ahead of all Next tells each pair once, by rising keys, and then false; from
// behind all Prev likewise, by falling keys.
func TestP19_7All(t *testing.T) {
	t.Parallel()
	scenes(t, 531, 4, func(r *draw.Numbers, v *vault.Vault, g *grove.Grown) {
		c := cursor.New(v, g.Tree)
		for range 2 {
			var on, back []string
			for len(on) <= g.Tree.Items && c.Next() {
				on = append(on, atText(t, c))
			}
			for len(back) <= g.Tree.Items && c.Prev() {
				back = append(back, atText(t, c))
			}
			slices.Reverse(back)
			var want []string
			for _, x := range g.Pairs {
				want = append(want, told(x))
			}
			equal(t, "how many keys", len(on), g.Tree.Items)
			equal(t, "all of it, on", slices.Equal(on, want), true)
			equal(t, "all of it, back", slices.Equal(back, want), true)
		}
		equal(t, "Err", c.Err(), 0)
	})
}

// atText is the pair at a place at which there is one.
func atText(t *testing.T, c *cursor.Cursor) string {
	t.Helper()
	x, is := c.At()
	equal(t, "At", is, true)
	return told(x)
}

// P19.7: a great tree; a step takes no longer there than in a small one, but for the
// levels.
func TestP19_7Great(t *testing.T) {
	t.Parallel()
	const keys = 40000
	var l []api.Pair
	for k := range keys {
		l = append(l, api.Pair{Key: []byte(fmt.Sprintf("%05d", k)), Value: []byte{byte(k)}})
	}
	v := newVault(t, 65536, 2)
	x := built(t, v, l)
	c := cursor.New(v, x.tree)
	for k := range keys {
		equal(t, "Next", c.Next(), true)
		if k%97 == 0 {
			equal(t, "At", atText(t, c), told(l[k]))
		}
	}
	equal(t, "Next", c.Next(), false)
	for k := keys - 1; k >= 0; k-- {
		equal(t, "Prev", c.Prev(), true)
		if k%97 == 0 {
			equal(t, "At", atText(t, c), told(l[k]))
		}
	}
	equal(t, "Prev", c.Prev(), false)
}

// grounds is trees of one vault, and cursors of them, each held against its model.
type grounds struct {
	t       *testing.T
	v       *vault.Vault
	trees   []known
	cursors []*held
	on      []int // the tree of each cursor
	met     met
}

// leave puts another tree in the place of one, and each cursor of that, which is gone now
// or stands no more, goes over to it; some ask before, where the tree is gone.
func (g *grounds) leave(r *draw.Numbers, n int, x known) {
	g.t.Helper()
	old := g.trees[n]
	g.trees[n] = x
	isGone := old.tree.Root != 0 && g.v.Count(old.tree.Root) == 0
	for k, h := range g.cursors {
		if g.on[k] != n {
			continue
		}
		if isGone && r.Below(2) == 0 {
			h.m.of = gone(old.tree)
			staysGone(g.t, h, r.Below(6), grove.Key(r))
			g.met["gone"]++
		}
		h.move(x)
	}
}

// tend puts into a tree, cuts it, clones it over another one or drops it.
func (g *grounds) tend(r *draw.Numbers) {
	g.t.Helper()
	n := r.Below(len(g.trees))
	x, key := g.trees[n], grove.Key(r)
	if len(x.pairs) > 0 && r.Below(2) == 0 {
		key = x.pairs[r.Below(len(x.pairs))].Key
	}
	switch what := r.Below(14); {
	case what < 7:
		p := api.Pair{Key: key, Value: grove.Value(grove.Sizes()[r.Below(10)])}
		y, _, e := put.Put(g.v, x.tree, p.Key, p.Value)
		g.met[fmt.Sprint("put ", int(e))]++
		if e == 0 {
			g.leave(r, n, known{tree: y, pairs: with(x.pairs, p)})
		}
	case what < 10:
		y, _, e := cut.Cut(g.v, x.tree, key)
		g.met[fmt.Sprint("cut ", int(e))]++
		if e == 0 {
			g.leave(r, n, known{tree: y, pairs: without(x.pairs, key)})
		}
	case what < 12:
		y, e := fork.Clone(g.v, x.tree)
		g.met[fmt.Sprint("clone ", int(e))]++
		if to := r.Below(len(g.trees)); e == 0 && to != n {
			equal(g.t, "Drop", fork.Drop(g.v, g.trees[to].tree), 0)
			g.leave(r, to, known{tree: y, pairs: x.pairs})
		} else if e == 0 {
			equal(g.t, "Drop", fork.Drop(g.v, y), 0)
		}
	case what == 12 && r.Below(5) == 0:
		equal(g.t, "Drop", fork.Drop(g.v, x.tree), 0)
		g.leave(r, n, nothing())
		g.met["drop"]++
	case what == 13 && r.Below(3) == 0:
		g.v.Settle()
	}
}

// ask asks one of the cursors, or has it go over to another tree.
func (g *grounds) ask(r *draw.Numbers) {
	g.t.Helper()
	k := r.Below(len(g.cursors))
	h := g.cursors[k]
	if r.Below(6) == 0 {
		g.on[k] = r.Below(len(g.trees))
		h.move(g.trees[g.on[k]])
	}
	row := grove.Key(r)
	if l := g.trees[g.on[k]].pairs; len(l) > 0 && r.Below(2) == 0 {
		row = l[r.Below(len(l))].Key
	}
	h.any(r, row)
	h.at()
	g.met[fmt.Sprint("height ", h.m.of.tree.Height)]++
}

// P19.9, P19.10: trees are put into, cut, cloned and dropped between the calls of several
// cursors; each stays where it is, whatever is done to its tree and to others.
func TestP19_9Script(t *testing.T) {
	t.Parallel()
	met := met{}
	for from := range 12 {
		r := draw.Numbers(540 + from)
		g := &grounds{t: t, v: newVault(t, 20+40*from, 2+r.Below(4)), met: met}
		for n := range 4 {
			g.trees = append(g.trees, built(t, g.v, grove.Pairs(&r, 10*n*from, 0)))
		}
		for n := range 5 {
			g.cursors = append(g.cursors, hold(t, g.v, g.trees[n%4]))
			g.on = append(g.on, n%4)
		}
		for range 800 {
			g.tend(&r)
			for range r.Below(4) {
				g.ask(&r)
			}
		}
	}
	met.wants(t, 20, "put 0", "put 12", "cut 0", "clone 0", "clone 13", "drop", "gone", "height 0", "height 1", "height 2", "height 3")
}

// P19.10: what one cursor is asked changes nothing of what another one answers: with it and
// without it the answers are the same.
func TestP19_10WithoutTheOther(t *testing.T) {
	t.Parallel()
	r := draw.Numbers(551)
	for round := range 20 {
		g := grove.Any(&r, 1+round%3)
		s, _ := grove.Settings(&r).Lay(&r, g)
		script := func(r draw.Numbers, c *cursor.Cursor, between func()) string {
			text := ""
			for range 60 {
				between()
				x, is := c.At()
				switch r.Below(5) {
				case 0:
					text += fmt.Sprint(c.Prev())
				case 1:
					text += fmt.Sprint(c.Seek(g.SomeKey(&r)))
				default:
					text += fmt.Sprint(c.Next())
				}
				text += fmt.Sprint(told(x), is, int(c.Err()))
			}
			return text
		}
		alone := vaultOf(t, s)
		want := script(draw.Numbers(round), cursor.New(alone, g.Tree), func() {})
		v := vaultOf(t, s)
		other := cursor.New(v, g.Tree)
		got := script(draw.Numbers(round), cursor.New(v, g.Tree), func() {
			other.Seek(g.SomeKey(&r))
			other.Prev()
			other.At()
			if r.Below(5) == 0 {
				other.Move(tree(v.Len()+1, 1, 1)) // which is gone
				other.Next()
				other.Move(g.Tree)
			}
		})
		equal(t, "the answers", got, want)
		equal(t, "the vaults", view.Vault(v), view.Vault(alone))
	}
}
