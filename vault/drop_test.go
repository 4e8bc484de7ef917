package vault_test

import (
	"testing"

	"coppice/api"
)

func TestP11_8KeepUpToTheGreatestCount(t *testing.T) {
	for _, refs := range []int{minRefs, 3, maxRefs} {
		v := load(t, refs, []int{1, 0, 0}, N(2, 3))
		makes(t, v, L("a"), 2, 0)
		for _, n := range []int{1, 2} {
			for c := 2; c <= refs; c++ {
				keeps(t, v, n, 0)
				equal(t, "Count", v.Count(n), c)
			}
			unchanged(t, v, func() {
				keeps(t, v, n, errRefs)
				keeps(t, v, n, errRefs)
			})
			drops(t, v, n, 0)
			keeps(t, v, n, 0)
			unchanged(t, v, func() { keeps(t, v, n, errRefs) })
		}
		// What a page leads to is not looked at, and stays as it was.
		equalLists(t, "Counts", v.Counts(), []int{refs, refs, 0})
		equalLists(t, "states", states(v), []int{held, fresh, free})
		reads(t, v, 1, N(2, 3), 0)
		reads(t, v, 2, L("a"), 0)
		equal(t, "Mark", v.Mark(), 1+2*(refs-1)+4)
	}
}

func TestP11_8KeepOfNone(t *testing.T) {
	v := fourStates(t)
	for _, n := range append(noPages(8), 2, 4, 6, 8) {
		unchanged(t, v, func() { keeps(t, v, n, errPage) })
	}
}

// P11.13: Drop behind Keep, of pages in each state that has some.
func TestP11_13DropBehindKeep(t *testing.T) {
	v := fourStates(t)
	for _, n := range []int{1, 3, 5, 7} {
		seen, mark, count := look(v), v.Mark(), v.Count(n)
		keeps(t, v, n, 0)
		equal(t, "Count", v.Count(n), count+1)
		drops(t, v, n, 0)
		equal(t, "Drop behind Keep", look(v), seen)
		equal(t, "Mark", v.Mark(), mark+2)
	}
}

// Down to the last page, each with all that comes of it.
func TestP11_9DropOfATree(t *testing.T) {
	// 7 leads to 5 and 6, 5 to 1 and 2, 6 to 3, 2 and 4; the leaf 3 to the blob 8 and
	// the blob 9, 8 to 9.
	v := newVault(t, 10, 9)
	for n, p := range []api.Page{L("a"), L("b"), V(8, 9), L("d"), N(1, 2), N(3, 2, 4), N(5, 6), B(9), B(0)} {
		makes(t, v, p, n+1, 0)
	}
	keeps(t, v, 2, 0)
	keeps(t, v, 9, 0)
	keeps(t, v, 7, 0)
	keeps(t, v, 6, 0)
	mark, before := v.Mark(), look(v)
	drops(t, v, 7, 0)
	equalLists(t, "its count was 2", v.Counts(), []int{1, 2, 1, 1, 1, 2, 1, 1, 2, 0})
	drops(t, v, 7, 0)
	equalLists(t, "6 is led to once more", v.Counts(), []int{0, 1, 1, 1, 0, 1, 0, 1, 2, 0})
	equal(t, "Mark", v.Mark(), mark+2)
	makes(t, v, B(0), 1, 0)
	drops(t, v, 1, 0)
	drops(t, v, 6, 0)
	equalLists(t, "nothing is led to", v.Counts(), make([]int, 10))
	equal(t, "tallies", tallies(v), [4]int{10, 0, 0, 0})
	equal(t, "Undo", v.Undo(mark), true)
	equal(t, "behind Undo", look(v), before)
}

// What lasts stands there still, what is Fresh is given back.
func TestP11_9DropOfWhatLasts(t *testing.T) {
	v := load(t, 3, []int{1, 1, 2, 1, 0, 0}, N(2, 3), V(4), L("c"), B(0))
	makes(t, v, N(3, 6), 5, 0)
	makes(t, v, V(1), 6, 0)
	drops(t, v, 5, 0)
	equalLists(t, "Counts", v.Counts(), []int{0, 0, 0, 0, 0, 0})
	equalLists(t, "states", states(v), []int{pending, pending, pending, pending, free, free})
	equal(t, "what lasts", listed(v.Pages(pending)), "1: "+text(N(2, 3))+"; 2: "+text(V(4))+"; 3: "+text(L("c"))+"; 4: "+text(B(0))+"; ")
	equal(t, "Undo(2)", v.Undo(2), true)
	equalLists(t, "Counts", v.Counts(), []int{1, 1, 2, 1, 1, 1})
	reads(t, v, 5, N(3, 6), 0)
	reads(t, v, 6, V(1), 0)
}

// A page that leads to another one several times drops it as often.
func TestP11_9SeveralTimesTheSame(t *testing.T) {
	for _, p := range []api.Page{N(2, 2, 2), V(2, 2, 2)} {
		for count, want := range map[int][]int{5: {0, 2}, 4: {0, 1}, 3: {0, 0}} {
			v := load(t, 5, []int{1, count}, p, L("a"))
			drops(t, v, 1, 0)
			equalLists(t, "Counts", v.Counts(), want)
			equal(t, "Mark", v.Mark(), 1)
		}
		for _, count := range []int{1, 2} {
			v := load(t, 5, []int{1, count}, p, L("a"))
			unchanged(t, v, func() { drops(t, v, 1, errPage) })
		}
	}
}

// One that is not there when it is to be dropped: nothing has changed.
func TestP11_9OneIsNotThere(t *testing.T) {
	for _, p := range []api.Page{N(2, 3, 9), N(9, 2, 3), N(2, 4), N(4, 2), N(65536, 1), V(2, 3, 4), V(2, 9), B(4), B(9), B(1), N(1, 2), N(2, 1), N(5, 5), N(5, 6), N(6, 5), N(6, 3)} {
		v := load(t, 3, []int{1, 2, 1, 0, 1, 1, 1}, p, L("b"), B(2), api.Page{}, N(3, 2), V(2, 4), L("g"))
		makes(t, v, L("fresh"), 4, 0)
		drops(t, v, 4, 0)
		unchanged(t, v, func() { drops(t, v, 1, errPage) })
		reads(t, v, 1, p, 0)
		// With one place more that leads there it is no matter where that leads.
		keeps(t, v, 1, 0)
		drops(t, v, 1, 0)
		unchanged(t, v, func() { drops(t, v, 1, errPage) })
		makes(t, v, L("then"), 4, 0)
		reads(t, v, 4, L("then"), 0)
	}
}

// Fresh pages on which something stood are as they were, when a Drop is refused.
func TestP11_9WhatWasBegunIsUndone(t *testing.T) {
	v := newVault(t, 5, 3)
	for i, p := range []api.Page{V(2), B(3), B(0), N(1, 5), L("gone")} {
		makes(t, v, p, i+1, 0)
	}
	drops(t, v, 5, 0)
	unchanged(t, v, func() { drops(t, v, 4, errPage) })
	for i, p := range []api.Page{V(2), B(3), B(0), N(1, 5)} {
		reads(t, v, i+1, p, 0)
	}
	makes(t, v, L("there"), 5, 0)
	drops(t, v, 4, 0)
	equalLists(t, "Counts", v.Counts(), make([]int, 5))
}

// Each page with all that comes of it, ahead of the next one: only so the last one
// is there, or not, when it is to be dropped.
func TestP11_9InTheirOrder(t *testing.T) {
	// 1 leads to 2 and then to 3, 2 to 3, 3 to 4. The count of 3 is 2: it is dropped
	// by 2 first, and by 1 then, and 4 behind that.
	v := load(t, 3, []int{1, 1, 2, 1}, N(2, 3), B(3), B(4), B(0))
	drops(t, v, 1, 0)
	equalLists(t, "Counts", v.Counts(), []int{0, 0, 0, 0})
	// A ring: page 2 leads back to 1, whose count is 2 or 1.
	v = load(t, 3, []int{2, 1}, B(2), B(1))
	drops(t, v, 1, 0)
	equalLists(t, "Counts", v.Counts(), []int{1, 1})
	unchanged(t, v, func() { drops(t, v, 1, errPage) })
	drops(t, v, 2, errPage)
	v = load(t, 3, []int{1, 2}, B(2), B(1))
	drops(t, v, 1, 0)
	equalLists(t, "Counts", v.Counts(), []int{0, 1})
	v = load(t, 3, []int{1}, B(1))
	unchanged(t, v, func() { drops(t, v, 1, errPage) })
}

// As deep as can be: each page leads to the next one.
func TestP11_9AsDeepAsCanBe(t *testing.T) {
	v := newVault(t, maxPages, 2)
	for n := 1; n < maxPages; n++ {
		makes(t, v, B(n+1), n, 0)
	}
	drops(t, v, 1, errPage) // the last one is not there yet
	equal(t, "tallies", tallies(v), [4]int{1, 0, maxPages - 1, 0})
	makes(t, v, B(0), maxPages, 0)
	drops(t, v, 1, 0)
	equal(t, "tallies, Mark", [2]int{v.Tally(free), v.Mark()}, [2]int{maxPages, maxPages + 1})
	equal(t, "Undo", v.Undo(maxPages), true)
	equal(t, "tallies", tallies(v), [4]int{0, 0, maxPages, 0})
	reads(t, v, 777, B(778), 0)
	v.Settle()
	drops(t, v, 1, 0)
	equal(t, "tallies", tallies(v), [4]int{0, maxPages, 0, 0})
	makes(t, v, B(0), 0, errSpace)
	v.Settle()
	makes(t, v, B(0), 1, 0)
}

func TestP11_9DropOfNone(t *testing.T) {
	v := fourStates(t)
	for _, n := range append(noPages(8), 2, 4, 6, 8) {
		unchanged(t, v, func() { drops(t, v, n, errPage) })
	}
}
