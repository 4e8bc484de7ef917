package cursor_test

import (
	"fmt"
	"slices"
	"testing"

	"coppice/api"
	"coppice/cut"
	"coppice/draw"
	"coppice/fork"
	"coppice/grove"
	"coppice/put"
	"coppice/vault"
)

// changed is a clone of a tree into which a pair was put.
func changed(t *testing.T, v *vault.Vault, x known, p api.Pair) known {
	t.Helper()
	y, e := fork.Clone(v, x.tree)
	equal(t, "Clone", e, 0)
	y, _, e = put.Put(v, y, p.Key, p.Value)
	equal(t, "Put", e, 0)
	return known{tree: y, pairs: with(x.pairs, p)}
}

// lacking is a clone of a tree out of which a key was cut.
func lacking(t *testing.T, v *vault.Vault, x known, key []byte) known {
	t.Helper()
	y, e := fork.Clone(v, x.tree)
	equal(t, "Clone", e, 0)
	y, _, e = cut.Cut(v, y, key)
	equal(t, "Cut", e, 0)
	return known{tree: y, pairs: without(x.pairs, key)}
}

// roomyVault has a tree made by hand, and free pages in plenty; counts have no bound that
// matters.
func roomyVault(t *testing.T, r *draw.Numbers, g *grove.Grown) *vault.Vault {
	t.Helper()
	s, _ := grove.Setting{Refs: 999, More: 60, Lasting: r.Below(5), Shared: r.Below(3)}.Lay(r, g)
	return vaultOf(t, s)
}

// P19.5: behind Move it is the other tree that is looked into, from the place where the
// cursor was.
func TestP19_5AnotherTree(t *testing.T) {
	t.Parallel()
	r := draw.Numbers(511)
	v := newVault(t, 3000, 9)
	var trees []known
	for n := range 12 {
		trees = append(trees, built(t, v, grove.Pairs(&r, []int{0, 1, 2, 8, 9, 30, 70, 200}[n%8], 3000)))
	}
	for range 3000 {
		h := hold(t, v, trees[r.Below(len(trees))])
		for range 8 {
			h.any(&r, grove.Key(&r))
			if r.Below(2) == 0 {
				h.move(trees[r.Below(len(trees))])
			}
		}
	}
}

// P19.5: to a tree with a key more, to one that lacks the key at which the place is, to one
// in which it has another value, to the empty one, and back: the place stays each time.
func TestP19_5WhereItIs(t *testing.T) {
	t.Parallel()
	r := draw.Numbers(512)
	for height := 1; height <= 3; height++ {
		for range 4 {
			g := grove.Any(&r, height)
			v, x := roomyVault(t, &r, g), of(g)
			h, began := hold(t, v, x), v.Mark()
			for _, p := range places(&r, g, 2) {
				h.to(v, p)
				others := []known{nothing(), lacking(t, v, x, g.SomeKey(&r))}
				if p.side == at {
					others = append(others, lacking(t, v, x, []byte(p.key)), changed(t, v, x, api.Pair{Key: []byte(p.key), Value: grove.Value(700)}))
				}
				key := g.SomeKey(&r)
				others = append(others, changed(t, v, x, api.Pair{Key: key, Value: []byte("other")}))
				for _, y := range others {
					h.move(y)
					h.tells(v)
					h.move(x)
					h.tells(v)
					equal(t, "the place", h.m.place, p)
				}
				v.Undo(began)
			}
		}
	}
}

// P19.5, P19.9: a tree that has a key more just beside the place, on either side, or that
// lacks the nearest one.
func TestP19_9Nearest(t *testing.T) {
	t.Parallel()
	all := edges()
	for k := 1; k+1 < len(all); k++ {
		pair := func(n int) api.Pair { return api.Pair{Key: all[n], Value: []byte{byte(n)}} }
		v := newVault(t, 30, 9)
		few := built(t, v, []api.Pair{pair(0), pair(len(all) - 1)})
		for _, c := range []struct {
			put        []int
			next, prev int
		}{
			{nil, len(all) - 1, 0}, {[]int{k}, len(all) - 1, 0}, {[]int{k - 1}, len(all) - 1, k - 1}, {[]int{k + 1}, k + 1, 0},
			{[]int{k - 1, k, k + 1}, k + 1, k - 1},
		} {
			x := few
			for _, n := range c.put {
				x = changed(t, v, x, pair(n))
			}
			for _, d := range []struct {
				name string
				do   func(*held) bool
				want int
			}{{"Next", (*held).next, c.next}, {"Prev", (*held).prev, c.prev}} {
				h := hold(t, v, few)
				h.to(v, place{at, string(all[k])})
				h.move(x)
				_, is := h.at()
				equal(t, "At", is, slices.Contains(c.put, k))
				equal(t, d.name, d.do(h), true)
				equal(t, fmt.Sprintf("what %s comes to", d.name), h.key(), string(all[d.want]))
			}
		}
	}
}

// P19.9: Move to any tree and back, with nothing asked between or with At alone, changes
// nothing.
func TestP19_9ThereAndBack(t *testing.T) {
	t.Parallel()
	scenes(t, 513, 3, func(r *draw.Numbers, v *vault.Vault, g *grove.Grown) {
		other := built(t, v, letters("am"))
		h := hold(t, v, of(g))
		for _, p := range places(r, g, 2) {
			h.to(v, p)
			before, had := h.at()
			for _, y := range []known{other, nothing(), of(g)} {
				for ask := range 2 {
					h.move(y)
					if ask == 1 {
						h.at()
					}
					h.move(of(g))
					x, has := h.at()
					equal(t, "At there and back", fmt.Sprint(told(x), has), fmt.Sprint(told(before), had))
				}
			}
			h.tells(v)
		}
	})
}

// P19.8: Next and then Prev, Prev and then Next, from every key of a tree.
func TestP19_8ThereAndBack(t *testing.T) {
	t.Parallel()
	met := met{}
	scenes(t, 514, 4, func(r *draw.Numbers, v *vault.Vault, g *grove.Grown) {
		h := hold(t, v, of(g))
		for k, x := range g.Pairs {
			for _, d := range []struct {
				name       string
				there, bak func() bool
				can        bool
			}{{"Next", h.next, h.prev, k+1 < len(g.Pairs)}, {"Prev", h.prev, h.next, k > 0}} {
				h.seek(x.Key)
				went := d.there()
				equal(t, d.name, went, d.can)
				equal(t, "and back", d.bak(), true)
				equal(t, "the key", h.key(), string(x.Key))
				met[fmt.Sprint(d.name, went)]++
			}
		}
	})
	met.wants(t, 10, "Nexttrue", "Nextfalse", "Prevtrue", "Prevfalse")
}
