package vault_test

import (
	"iter"
	"sync"
	"testing"

	"coppice/api"
)

// wholeWalks is what the walks over the states of fourStates go over.
func wholeWalks() map[int]string {
	none := text(api.Page{})
	return map[int]string{
		held:    "1: " + text(L("a")) + "; 5: " + text(N(1, 3)) + "; ",
		pending: "2: " + text(B(3)) + "; 6: " + text(L("f")) + "; ",
		fresh:   "3: " + text(V(5)) + "; 7: " + text(B(3)) + "; ",
		free:    "4: " + none + "; 8: " + none + "; ",
	}
}

func TestP11_10PagesOfEachState(t *testing.T) {
	v := fourStates(t)
	for _, state := range someStates() {
		walk := v.Pages(state)
		if walk == nil {
			t.Fatalf("Pages(%d) is nil", state)
		}
		for range 3 {
			equal(t, "Pages", listed(walk), wholeWalks()[state])
		}
	}
	unchanged(t, v, func() {
		for _, state := range someStates() {
			listed(v.Pages(state))
		}
	})
	v = newVault(t, 1, 2)
	for _, state := range someStates()[1:] {
		if walk := v.Pages(state); walk == nil || listed(walk) != "" {
			t.Fatalf("Pages(%d) of a new vault", state)
		}
	}
}

// What stands on a page that was given back is not told of a Free one.
func TestP11_10NothingStandsOnFreePages(t *testing.T) {
	v := newVault(t, 3, 2)
	makes(t, v, N(1, 2), 1, 0)
	makes(t, v, B(0), 2, 0)
	makes(t, v, L("c"), 3, 0)
	takes(t, v, 3, L("c"), 0)
	drops(t, v, 2, 0)
	equal(t, "Undo(0)", v.Undo(0), true)
	makes(t, v, L("a"), 1, 0)
	v.Settle()
	drops(t, v, 1, 0)
	v.Settle()
	for n, p := range v.Pages(free) {
		if text(p) != text(api.Page{}) || p.Items != nil || p.Data != nil {
			t.Fatalf("on %d stands %s", n, text(p))
		}
	}
	equal(t, "tallies", tallies(v), [4]int{3, 0, 0, 0})
}

// A walk goes over what there was when it was asked for, whatever is done later.
func TestP11_10WalkSeesWhatThereWas(t *testing.T) {
	v := fourStates(t)
	walks := map[int]iter.Seq2[int, api.Page]{}
	for _, state := range someStates() {
		walks[state] = v.Pages(state)
	}
	mark := v.Mark()
	for _, c := range []call{
		{"Make", 0, L("x")}, {"Write", 3, L("y")}, {"Shadow", 5, L()}, {"Take", 7, L()}, {"Keep", 1, L()}, {"Drop", 7, L()}, {"Drop", 1, L()}, {"Drop", 1, L()},
		{"Undo", mark, L()}, {"Write", 3, L("z")}, {"Settle", 0, L()}, {"Make", 0, L("w")}, {"Shadow", 3, L()}, {"Drop", 5, L()}, {"Settle", 0, L()}, {"Make", 0, L("w")}, {"Make", 0, L("w")},
	} {
		if answer, e := c.on(v); e != 0 || answer == "false" {
			t.Fatalf("%v = %s", c, answer)
		}
		for state, walk := range walks {
			for range 2 {
				equal(t, "a walk from before", listed(walk), wholeWalks()[state])
			}
		}
	}
}

// A walk that is left in the middle, and gone over once more, one inside of another.
func TestP11_10WalkIsLeft(t *testing.T) {
	v := load(t, 3, []int{1, 0, 1, 2}, L("a"), api.Page{}, B(0), L("d"))
	walk := v.Pages(held)
	pages := map[int]api.Page{1: L("a"), 3: B(0), 4: L("d")}
	for stop := range 4 {
		var l []int
		for n, p := range walk {
			equal(t, "what stands there", text(p), text(pages[n]))
			l = append(l, n)
			if len(l) > stop {
				break
			}
		}
		equalLists(t, "left", l, []int{1, 3, 4}[:min(stop+1, 3)])
	}
	next, leave := iter.Pull2(walk)
	defer leave()
	n, _, _ := next()
	equal(t, "pulled", n, 1)
	for m := range walk {
		if m == 3 {
			n, _, _ = next()
		}
	}
	equal(t, "pulled", n, 3)
	n, p, is := next()
	equal(t, "pulled", n, 4)
	equal(t, "pulled", text(p), text(L("d")))
	n, p, is = next()
	equal(t, "the end", n == 0 && !is && text(p) == text(api.Page{}), true)
}

// What is done to the vault inside of a walk is not seen by it.
func TestP11_10ChangesInsideOfAWalk(t *testing.T) {
	v := newVault(t, 4, 2)
	var l []int
	for n := range v.Pages(free) {
		l = append(l, n)
		makes(t, v, B(0), n, 0)
		if n == 2 {
			v.Settle()
			drops(t, v, 1, 0)
		}
	}
	equalLists(t, "walk", l, []int{1, 2, 3, 4})
	equalLists(t, "states", states(v), []int{pending, held, fresh, fresh})
	for n, p := range v.Pages(fresh) {
		writes(t, v, 4, L("later"), map[bool]api.Errno{true: 0, false: errPage}[v.Count(4) > 0])
		equal(t, "what stood there", text(p), text(B(0)))
		drops(t, v, n, 0)
	}
	equalLists(t, "states", states(v), []int{pending, held, free, free})
}

// A walk by several at a time, while the vault is changed.
func TestP11_10SeveralAtATime(t *testing.T) {
	v := fourStates(t)
	walks := []iter.Seq2[int, api.Page]{v.Pages(free), v.Pages(pending), v.Pages(fresh), v.Pages(held), v.Pages(0)}
	var all sync.WaitGroup
	wrong := make([]int, 20)
	for i := range wrong {
		all.Add(1)
		go func() {
			defer all.Done()
			for range 50 {
				state := (i%len(walks) + 1) % 5
				if listed(walks[i%len(walks)]) != wholeWalks()[state] {
					wrong[i]++
				}
			}
		}()
	}
	mark := v.Mark()
	for range 50 {
		v.Make(L("x"))
		v.Write(3, L("y"))
		v.Drop(7)
		v.Drop(1)
		v.Shadow(5)
		v.Undo(mark)
	}
	v.Settle()
	all.Wait()
	for _, n := range wrong {
		equal(t, "wrong walks", n, 0)
	}
}
