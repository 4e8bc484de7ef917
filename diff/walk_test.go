package diff_test

import (
	"fmt"
	"iter"
	"slices"
	"sync"
	"testing"

	"coppice/api"
	"coppice/cut"
	"coppice/diff"
	"coppice/draw"
	"coppice/fork"
	"coppice/grove"
	"coppice/put"
)

// first are the first changes of a walk, which is left behind them.
func first(walk iter.Seq[api.Change], n int) []api.Change {
	var l []api.Change
	for c := range walk {
		if l = append(l, c); len(l) == n {
			break
		}
	}
	return l
}

// R6: a walk is gone over whole, left behind the first change and in the middle, and gone
// over again, each time from the first change on.
func TestR6WholeAndInParts(t *testing.T) {
	t.Parallel()
	r, met := draw.Numbers(611), met{}
	for round := range 200 {
		c := someCouple(t, &r, 1+round%3)
		want := modelList(pairs(t, c.v, c.a), pairs(t, c.v, c.b))
		walk := diff.Walk(c.v, c.a, c.b)
		if walk == nil {
			t.Fatal("no walk")
		}
		for range 2 {
			for _, n := range []int{1, len(want) / 2, len(want), 1 + r.Below(len(want)+1)} {
				if n > 0 {
					equalChanges(t, fmt.Sprintf("the first %d changes", n), first(walk, n), want[:min(n, len(want))])
				}
			}
			equalChanges(t, "the whole walk", slices.Collect(walk), want)
		}
		met[fmt.Sprint(len(want) > 2)]++
	}
	met.wants(t, 50, "true", "false")
}

// R6: what is done to the vault meanwhile is not seen: trees change, are dropped, and their
// pages are written again.
func TestR6TheVaultChanges(t *testing.T) {
	t.Parallel()
	r := draw.Numbers(612)
	for round := range 60 {
		c := siblings(t, &r, 1+round%3, 10)
		want := modelList(pairs(t, c.v, c.a), pairs(t, c.v, c.b))
		walk := diff.Walk(c.v, c.a, c.b)
		began, k := c.v.Mark(), 0
		for x := range walk {
			equalChanges(t, "a change", []api.Change{x}, want[k:k+1])
			if k++; round%2 == 0 {
				c.a = tended(t, &r, c.v, c.a, c.grown)
				if b, _, e := cut.Cut(c.v, c.b, x.Key); e == 0 {
					c.b = b
				}
			} else if k == 1 {
				equal(t, "Drop", fork.Drop(c.v, c.a), 0)
				equal(t, "Drop", fork.Drop(c.v, c.b), 0)
				c.v.Settle()
			} else {
				c.a, c.b = empty, empty
				for range 4 {
					if b, _, e := put.Put(c.v, c.b, grove.Key(&r), value(r.Below(maxValue))); e == 0 {
						c.b = b
					}
				}
			}
		}
		equal(t, "how many there were", k, len(want))
		equalChanges(t, "once more", slices.Collect(walk), want)
		c.v.Undo(began)
		equalChanges(t, "behind Undo", slices.Collect(walk), want)
	}
}

// R6, P20.1 and P20.2: a walk changes nothing, also where it is left, nor does any other
// call but Apply; and a walk of the empty trees is one.
func TestR6ChangesNothing(t *testing.T) {
	t.Parallel()
	r := draw.Numbers(613)
	for round := range 20 {
		c := someCouple(t, &r, 1+round%3)
		unchanged(t, c.v, func() {
			walk := diff.Walk(c.v, c.a, c.b)
			first(walk, 1)
			first(walk, 3)
			l := list(t, c.v, c.a, c.b, allKeys)
			list(t, c.v, c.b, c.a, c.ranges(&r, 1)[4])
			read(t, c.v, c.a, c.b)
			diff.Turn(l)
			for range walk {
			}
		})
	}
	v := newVault(t, 1, 2)
	for _, walk := range []iter.Seq[api.Change]{diff.Walk(v, empty, empty), diff.Walk(nil, empty, empty), diff.Walk(nil, tree(1, 1, 1), empty), diff.Walk(v, tree(1, 1, 1), empty)} {
		if walk == nil {
			t.Fatal("no walk")
		}
		equal(t, "how many changes", len(slices.Collect(walk)), 0)
	}
}

// R6: several go over one walk at a time, in loops inside of loops and side by side.
func TestR6SeveralAtATime(t *testing.T) {
	t.Parallel()
	r := draw.Numbers(614)
	c := siblings(t, &r, 3, 30)
	want := modelList(pairs(t, c.v, c.a), pairs(t, c.v, c.b))
	walk := diff.Walk(c.v, c.a, c.b)
	k := 0
	for x := range walk {
		equalChanges(t, "the outer loop", []api.Change{x}, want[k:k+1])
		equalChanges(t, "the inner loop", slices.Collect(walk), want)
		k++
	}
	equal(t, "how many there were", k, len(want))
	var all sync.WaitGroup
	got := make([]string, 8)
	for k := range got {
		all.Go(func() {
			var l []api.Change
			for x := range walk {
				l = append(l, copied([]api.Change{x})...)
				turn(x.Key) // what is told is the loop's own
				turn(x.Old)
				turn(x.New)
			}
			got[k] = told(l)
		})
	}
	all.Wait()
	for _, text := range got {
		equal(t, "side by side", text, told(want))
	}
}
