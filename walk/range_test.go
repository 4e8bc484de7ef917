package walk_test

import (
	"bytes"
	"iter"
	"sync"
	"testing"

	"coppice/api"
	"coppice/draw"
	"coppice/grove"
	"coppice/vault"
	"coppice/view"
	"coppice/walk"
)

// Ranges that begin and end at each key and between any two, that are empty, turned
// round, or have no end.
func TestP14_2Ranges(t *testing.T) {
	v, tree := two(t)
	letters := "acegmprtv"
	ends := []string{"", "\x00", "a", "a\x00", "b", "c", "g", "g\xff", "h", "l", "m", "m\x00", "n", "v", "v\x00", "w", "\xff", string(bytes.Repeat([]byte{0xff}, 30))}
	unchanged(t, v, func() {
		for _, lo := range ends {
			for _, hi := range ends {
				var between, on []api.Pair
				for _, k := range []byte(letters) {
					x := api.Pair{Key: []byte{k}, Value: []byte{k, k}}
					if string(k) >= lo {
						on = append(on, x)
						if string(k) < hi {
							between = append(between, x)
						}
					}
				}
				lists(t, v, tree, to(lo, hi), between)
				lists(t, v, tree, api.Range{Lo: []byte(lo), Hi: []byte(hi), Open: true}, on) // Hi does not matter
			}
		}
	})
}

// Ranges between any rows, of trees of all kinds.
func TestP14_2AnyRange(t *testing.T) {
	r, met := draw.Numbers(147), map[string]int{}
	for _, g := range grove.Trees(&r, 4) {
		v, rows := heldPages(t, g.Pages...), g.Rows(&r, 100)
		if r.Below(2) == 0 {
			v = freshPages(t, g.Pages...)
		}
		before, mark := view.Vault(v), v.Mark()
		for range 150 {
			rg := api.Range{Lo: rows[r.Below(len(rows))], Hi: rows[r.Below(len(rows))], Open: r.Below(5) == 0}
			if bytes.Compare(rg.Lo, rg.Hi) > 0 && r.Below(4) > 0 {
				rg.Lo, rg.Hi = rg.Hi, rg.Lo
			}
			want := g.List(rg)
			lists(t, v, g.Tree, rg, want)
			switch n := len(want); {
			case n == 0:
				met["none"]++
			case n == len(g.Pairs):
				met["all"]++
			default:
				met["some"]++
			}
		}
		equal(t, "the vault", view.Vault(v), before)
		equal(t, "Mark", v.Mark(), mark)
	}
	for what, n := range met {
		if n < 100 {
			t.Errorf("%s was met %d times", what, n)
		}
	}
}

// asked is a walk that was asked for, with what it must tell.
type asked struct {
	what string
	walk iter.Seq2[[]byte, []byte]
	want []api.Pair
}

// both is the walks over all of a tree, both ways.
func both(v *vault.Vault, tree api.Tree, pairs []api.Pair) []asked {
	return []asked{
		{"Scan", walk.Scan(v, tree, all()), pairs},
		{"Back", walk.Back(v, tree, all()), turned(pairs)},
	}
}

// Walks are stopped anywhere, and gone over again from their beginning.
func TestP14_2Stopped(t *testing.T) {
	r := draw.Numbers(148)
	for _, g := range grove.Trees(&r, 3) {
		v := heldPages(t, g.Pages...)
		for _, a := range both(v, g.Tree, g.Pairs) {
			for stop := 1; stop <= len(a.want); stop++ {
				var l []api.Pair
				for k, x := range a.walk {
					l = append(l, api.Pair{Key: k, Value: x})
					if len(l) == stop {
						break
					}
				}
				equalPairs(t, a.what+", stopped", l, a.want[:stop])
			}
			for range 3 {
				equalPairs(t, a.what+", again", told(a.walk), a.want)
			}
		}
	}
}

// Walks are gone over by several at a time: one inside of another, in turns, and by
// goroutines.
func TestP14_2SeveralAtATime(t *testing.T) {
	r := draw.Numbers(149)
	g := grove.Grow(&r, grove.Pairs(&r, 40, 3000), grove.Some(&r))
	for _, a := range both(heldPages(t, g.Pages...), g.Tree, g.Pairs) {
		at := 0
		for k := range a.walk {
			equal(t, "the outer walk", string(k), string(a.want[at].Key))
			equalPairs(t, "the inner walk", told(a.walk), a.want)
			at++
		}
		equal(t, "the outer walk", at, len(a.want))
		inTurns(t, a)
		var wait sync.WaitGroup
		lists := make([][]api.Pair, 8)
		for k := range lists {
			wait.Go(func() { lists[k] = told(a.walk) })
		}
		wait.Wait()
		for _, l := range lists {
			equalPairs(t, a.what+" of one of several", l, a.want)
		}
	}
}

// inTurns goes over a walk twice, the second time one pair behind.
func inTurns(t *testing.T, a asked) {
	t.Helper()
	ahead, stop := iter.Pull2(a.walk)
	defer stop()
	behind, stopToo := iter.Pull2(a.walk)
	defer stopToo()
	ahead()
	for _, x := range a.want[1:] {
		k, _, ok := ahead()
		equal(t, "ahead", ok && bytes.Equal(k, x.Key), true)
		behind()
	}
	k, value, ok := behind()
	equal(t, "behind", ok && samePair(api.Pair{Key: k, Value: value}, a.want[len(a.want)-1]), true)
	_, _, ok = behind()
	equal(t, "behind the end", ok, false)
}

// changes is what can be done to a vault since a walk was asked for.
func changes(g *grove.Grown) map[string]func(t *testing.T, v *vault.Vault) {
	write := func(t *testing.T, v *vault.Vault) {
		for n := 1; n <= v.Len(); n++ {
			if v.State(n) == fresh {
				equal(t, "Write", v.Write(n, leaf("qrs")), 0)
			}
		}
	}
	drop := func(t *testing.T, v *vault.Vault) {
		if g.Tree.Root != 0 {
			equal(t, "Drop", v.Drop(g.Tree.Root), 0)
		}
	}
	settle := func(_ *testing.T, v *vault.Vault) { v.Settle() }
	fill := func(_ *testing.T, v *vault.Vault) {
		for range v.Tally(free) {
			v.Make(leaf("wxyz"))
		}
	}
	each := func(steps ...func(*testing.T, *vault.Vault)) func(*testing.T, *vault.Vault) {
		return func(t *testing.T, v *vault.Vault) {
			for _, step := range steps {
				step(t, v)
			}
		}
	}
	return map[string]func(*testing.T, *vault.Vault){
		"written":                  write,
		"dropped":                  drop,
		"settled":                  settle,
		"dropped, filled":          each(drop, fill),
		"settled, dropped":         each(settle, drop),
		"settled, dropped, filled": each(settle, drop, settle, fill, write),
		"undone":                   func(_ *testing.T, v *vault.Vault) { v.Undo(0) },
	}
}

// A walk tells the pairs that there were when it was asked for, whatever is done to
// the vault since, also while it is gone over.
func TestP14_2WhatThereWas(t *testing.T) {
	r := draw.Numbers(150)
	for _, g := range grove.Trees(&r, 3) {
		for what, change := range changes(g) {
			v := freshPages(t, g.Pages...)
			walks := both(v, g.Tree, g.Pairs)
			mark, during := v.Mark(), 0
			for _, a := range walks {
				var l []api.Pair
				for k, x := range a.walk {
					l = append(l, api.Pair{Key: k, Value: x})
					if during++; during == len(a.want)/2+1 {
						change(t, v)
					}
				}
				equalPairs(t, a.what+" while it is "+what, l, a.want)
			}
			if len(g.Pairs) == 0 {
				change(t, v)
			}
			seen := view.Vault(v)
			for _, a := range walks {
				equalPairs(t, a.what+" when it is "+what, told(a.walk), a.want)
				equalPairs(t, a.what+" when it is "+what+", again", told(a.walk), a.want)
			}
			equal(t, "a walk changes nothing", view.Vault(v), seen)
			if what == "written" || what == "dropped" {
				equal(t, "Undo", v.Undo(mark), true)
				lists(t, v, g.Tree, all(), g.Pairs)
			}
		}
	}
}

// A tree tells what it has now, where a leaf of it has been written over.
func TestP14_2WhatThereIsNow(t *testing.T) {
	v := freshPages(t, leaf("aceg"), leaf("mprtv"), index(1, "m", 1, 2))
	tree := api.Tree{Root: 3, Height: 2, Items: 9}
	walks := both(v, tree, told(walk.Scan(v, tree, all())))
	equal(t, "Write", v.Write(1, leaf("bdfh")), 0)
	equal(t, "List", words(told(walk.Scan(v, tree, to("", "n")))), "b bb, d dd, f ff, h hh, m mm")
	gets(t, v, tree, []byte("c"), nil, false, 0)
	gets(t, v, tree, []byte("d"), []byte("dd"), true, 0)
	for _, a := range walks {
		equalPairs(t, a.what+" from before", told(a.walk), a.want)
	}
}

// A walk is never nil, whatever is asked for.
func TestP14_2NeverNil(t *testing.T) {
	r := draw.Numbers(151)
	for _, g := range grove.Trees(&r, 2) {
		v := heldPages(t, g.Pages...)
		for _, tree := range []api.Tree{g.Tree, empty, {Root: 1}, {Height: 1}, {Items: 1}, {Root: 1, Height: 1, Items: 1}, {Root: -1, Height: -1, Items: -1}, {Root: 99, Height: 2, Items: 9}} {
			for _, rg := range []api.Range{all(), {}, from("z"), to("z", "a"), to("a", "z"), to("a", "a")} {
				for what, w := range map[string]iter.Seq2[[]byte, []byte]{"Scan": walk.Scan(v, tree, rg), "Back": walk.Back(v, tree, rg)} {
					if w == nil {
						t.Fatalf("%s(%v, %s) is nil", what, tree, show(rg))
					}
					told(w)
				}
			}
		}
	}
}
