package pool_test

import (
	"fmt"
	"slices"
	"testing"

	"coppice/api"
	"coppice/pool"
)

// The chapter's table, row by row, on one pool.
func TestExamplesOfTheChapter(t *testing.T) {
	p := newPool(t, 3, 2)
	alloc(t, p, 1, 0)
	alloc(t, p, 2, 0)
	inc(t, p, 1, 0)
	inc(t, p, 1, errRefs)
	inc(t, p, 3, errPage)
	equal(t, "row 2", [6]int{p.State(1), p.State(3), p.Count(1), p.Count(9), p.Tally(fresh), p.Mark()}, [6]int{fresh, free, 2, 0, 2, 3})
	dec(t, p, 2, 0, 0)
	equal(t, "State(2)", p.State(2), free)
	alloc(t, p, 2, 0)
	p.Settle()
	equal(t, "row 4", [2]int{p.State(1), p.State(2)}, [2]int{held, held})
	equal(t, "Undo(3)", p.Undo(3), false)
	equal(t, "Undo(5)", p.Undo(5), true)
	dec(t, p, 2, 0, 0)
	equal(t, "State(2)", p.State(2), pending)
	alloc(t, p, 3, 0)
	alloc(t, p, 0, errSpace)
	equalLists(t, "Pages(Held)", listed(p, held), []int{1})
	equalLists(t, "Pages(Pending)", listed(p, pending), []int{2})
	equalLists(t, "Pages(Fresh)", listed(p, fresh), []int{3})
	equalLists(t, "Pages(Free)", listed(p, free), nil)
	equal(t, "Undo(6)", p.Undo(6), true)
	equal(t, "row 7", [3]int{p.State(3), p.State(2), p.Mark()}, [3]int{free, pending, 6})
	equal(t, "Undo(5)", p.Undo(5), true)
	equal(t, "State(2)", p.State(2), held)
	equalLists(t, "Counts()", p.Counts(), []int{2, 1, 0})
	dec(t, p, 2, 0, 0)
	p.Settle()
	equal(t, "State(2)", p.State(2), free)
	alloc(t, p, 2, 0)
	equal(t, "Mark()", p.Mark(), 7)
	refusedNew(t, 0, 2)
	refusedNew(t, 3, 1)
	refusedNew(t, 3, 65536)
	refusedLoad(t, 2, []int{0, 3}, errRefs)
	refusedLoad(t, 2, nil, errArg)
}

func refusedNew(t *testing.T, pages, refs int) {
	t.Helper()
	if p, e := pool.New(pages, refs); p != nil || e != errArg {
		t.Fatalf("New(%d, %d) = %v, %d, want ErrArg", pages, refs, p, e)
	}
}

func refusedLoad(t *testing.T, refs int, counts []int, want api.Errno) {
	t.Helper()
	if p, e := pool.Load(refs, counts); p != nil || e != want {
		t.Fatalf("Load(%d, %d counts) = %v, %d, want %d", refs, len(counts), p, e, want)
	}
}

func TestP10_1NewAtItsLimits(t *testing.T) {
	for _, pages := range []int{1, 2, 8, 65535, maxPages} {
		for _, refs := range []int{minRefs, 3, 65534, maxRefs} {
			p := newPool(t, pages, refs)
			equal(t, "Len, Refs, Mark", [3]int{p.Len(), p.Refs(), p.Mark()}, [3]int{pages, refs, 0})
			equal(t, "tallies", [4]int{p.Tally(free), p.Tally(pending), p.Tally(fresh), p.Tally(held)}, [4]int{pages, 0, 0, 0})
			equalLists(t, "Counts()", p.Counts(), make([]int, pages))
		}
	}
}

func TestP10_1NewBeyondItsLimits(t *testing.T) {
	pages := []int{least, -65536, -1, 0, maxPages + 1, 1 << 32, 1<<32 + 5, greatest}
	refs := []int{least, -65535, -2, -1, 0, 1, maxRefs + 1, maxRefs + 2, 1<<32 + 2, greatest}
	for _, n := range pages {
		refusedNew(t, n, 2)
		refusedNew(t, n, maxRefs)
		for _, r := range refs {
			refusedNew(t, n, r)
		}
	}
	for _, r := range refs {
		refusedNew(t, 1, r)
		refusedNew(t, maxPages, r)
	}
}

func TestP10_1LoadAtItsLimits(t *testing.T) {
	for _, n := range []int{1, 2, 3, 65535, maxPages} {
		for _, refs := range []int{minRefs, 3, maxRefs} {
			counts := make([]int, n)
			for i := range counts {
				counts[i] = []int{refs, 0, 1, refs - 1, 0}[i%5]
			}
			counts[n-1] = refs
			p := load(t, refs, counts...)
			equal(t, "Len, Refs, Mark", [3]int{p.Len(), p.Refs(), p.Mark()}, [3]int{n, refs, 0})
			equalLists(t, "Counts()", p.Counts(), counts)
			zeros := 0
			for i, c := range counts {
				want := held
				if c == 0 {
					want = free
					zeros++
				}
				equal(t, "State", p.State(i+1), want)
				equal(t, "Count", p.Count(i+1), c)
			}
			equal(t, "tallies", [4]int{p.Tally(free), p.Tally(pending), p.Tally(fresh), p.Tally(held)}, [4]int{zeros, 0, 0, n - zeros})
		}
	}
}

func TestP10_1LoadBeyondItsLimits(t *testing.T) {
	most := make([]int, maxPages)
	more := make([]int, maxPages+1)
	for _, none := range [][]int{nil, {}, make([]int, 0, 5)} {
		refusedLoad(t, 2, none, errArg)
		refusedLoad(t, 1, none, errArg)
	}
	refusedLoad(t, 2, more, errArg)
	for _, refs := range []int{least, -2, -1, 0, 1, maxRefs + 1, 1<<32 + 2, greatest} {
		refusedLoad(t, refs, []int{0}, errArg)
		refusedLoad(t, refs, []int{1, 0, 1}, errArg)
		refusedLoad(t, refs, most, errArg)
		refusedLoad(t, refs, more, errArg)
	}
	for _, refs := range []int{minRefs, 9, maxRefs} {
		for _, wrong := range []int{least, -65535, -1, refs + 1, 65536, 1 << 16, 1<<32 + 1, greatest} {
			for at := range 3 {
				counts := []int{1, 0, refs}
				counts[at] = wrong
				refusedLoad(t, refs, counts, errRefs)
			}
			counts := slices.Clone(most)
			counts[maxPages-1] = wrong
			refusedLoad(t, refs, counts, errRefs)
		}
	}
}

// Two faults: what is wrong with an argument stands ahead of a count.
func TestP10_1LoadTwoFaults(t *testing.T) {
	refusedLoad(t, 1, []int{0, 9}, errArg)
	refusedLoad(t, 1, []int{-1}, errArg)
	refusedLoad(t, 0, []int{1}, errArg)
	refusedLoad(t, -1, []int{0}, errArg)
	refusedLoad(t, 65536, []int{65537}, errArg)
	refusedLoad(t, 65536, []int{-1}, errArg)
	more := make([]int, maxPages+1)
	more[0] = 3
	refusedLoad(t, 2, more, errArg)
	more[0], more[maxPages] = 0, -1
	refusedLoad(t, 2, more, errArg)
	refusedLoad(t, 1, more, errArg)
	refusedLoad(t, 2, []int{-1, 3}, errRefs)
}

func TestP10_2AllocTillNoneIsFree(t *testing.T) {
	for _, pages := range []int{1, 2, 7, maxPages} {
		p := newPool(t, pages, 2)
		for n := 1; n <= pages; n++ {
			alloc(t, p, n, 0)
			equal(t, "Count, State", [2]int{p.Count(n), p.State(n)}, [2]int{1, fresh})
			equal(t, "Mark", p.Mark(), n)
		}
		for range 3 {
			alloc(t, p, 0, errSpace)
		}
		equal(t, "Tally(Fresh), Mark", [2]int{p.Tally(fresh), p.Mark()}, [2]int{pages, pages})
		dec(t, p, pages, 0, 0)
		alloc(t, p, pages, 0)
		alloc(t, p, 0, errSpace)
	}
}

// The lowest free page, pages that are Pending lying below, between and above.
func TestP10_2AllocBesidePending(t *testing.T) {
	p := load(t, 3, 1, 0, 2, 1, 0, 0, 1)
	dec(t, p, 1, 0, 0)
	dec(t, p, 4, 0, 0)
	dec(t, p, 7, 0, 0)
	dec(t, p, 3, 1, 0)
	equalLists(t, "states", states(p), []int{pending, free, held, pending, free, free, pending})
	alloc(t, p, 2, 0)
	alloc(t, p, 5, 0)
	dec(t, p, 2, 0, 0)
	alloc(t, p, 2, 0)
	alloc(t, p, 6, 0)
	alloc(t, p, 0, errSpace)
	equalLists(t, "states", states(p), []int{pending, fresh, held, pending, fresh, fresh, pending})
	dec(t, p, 5, 0, 0)
	dec(t, p, 2, 0, 0)
	alloc(t, p, 2, 0)
	alloc(t, p, 5, 0)
	dec(t, p, 3, 0, 0)
	alloc(t, p, 0, errSpace)
	p.Settle()
	for _, n := range []int{1, 3, 4, 7} {
		alloc(t, p, n, 0)
	}
	alloc(t, p, 0, errSpace)
}

// All pages but one Pending, at the greatest number of pages.
func TestP10_2AllocOfTheLastOne(t *testing.T) {
	counts := make([]int, maxPages)
	for i := range maxPages - 1 {
		counts[i] = 1
	}
	p := load(t, 2, counts...)
	for n := 1; n < maxPages; n++ {
		dec(t, p, n, 0, 0)
	}
	equal(t, "Tally(Pending)", p.Tally(pending), maxPages-1)
	alloc(t, p, maxPages, 0)
	alloc(t, p, 0, errSpace)
	equal(t, "Undo(0)", p.Undo(0), true)
	equalLists(t, "Counts()", p.Counts(), counts)
	equal(t, "tallies", [4]int{p.Tally(free), p.Tally(pending), p.Tally(fresh), p.Tally(held)}, [4]int{1, 0, 0, maxPages - 1})
	p.Settle()
	alloc(t, p, maxPages, 0)
}

// Numbers that are no page, and pages whose count is 0: ErrPage, and nothing has
// changed.
func TestP10_3NoPage(t *testing.T) {
	p := load(t, 2, 1, 0, 2, 1, 0)
	dec(t, p, 4, 0, 0)
	alloc(t, p, 2, 0)
	equalLists(t, "states", states(p), []int{held, fresh, held, pending, free})
	before := look(p)
	for _, n := range append(somePages(5), 4, 5) {
		if n == 1 || n == 2 || n == 3 {
			continue
		}
		inc(t, p, n, errPage)
		dec(t, p, n, 0, errPage)
		equal(t, fmt.Sprint("behind ", n), look(p), before)
		equal(t, "Mark", p.Mark(), 2)
	}
}

func TestP10_3IncUpToRefs(t *testing.T) {
	for _, refs := range []int{minRefs, 3, 1000, maxRefs} {
		p := newPool(t, 2, refs)
		alloc(t, p, 1, 0)
		alloc(t, p, 2, 0)
		for c := 1; c < refs; c++ {
			equal(t, "Count", p.Count(2), c)
			inc(t, p, 2, 0)
		}
		for range 2 {
			inc(t, p, 2, errRefs)
			equal(t, "Count(1), Count(2), Mark", [3]int{p.Count(1), p.Count(2), p.Mark()}, [3]int{1, refs, refs + 1})
		}
		for c := refs - 1; c >= 0; c-- {
			dec(t, p, 2, c, 0)
			equal(t, "Count", p.Count(2), c)
		}
		dec(t, p, 2, 0, errPage)
		inc(t, p, 2, errPage)
		equal(t, "Count(1), State(2), Mark", [3]int{p.Count(1), p.State(2), p.Mark()}, [3]int{1, free, 2*refs + 1})
	}
}

func TestP10_3TheLastPage(t *testing.T) {
	for _, pages := range []int{1, 5, maxPages} {
		counts := make([]int, pages)
		counts[pages-1] = 1
		p := load(t, 2, counts...)
		inc(t, p, pages, 0)
		inc(t, p, pages, errRefs)
		inc(t, p, pages+1, errPage)
		dec(t, p, pages+1, 0, errPage)
		dec(t, p, pages, 1, 0)
		dec(t, p, pages, 0, 0)
		dec(t, p, pages, 0, errPage)
		equal(t, "State, Mark", [2]int{p.State(pages), p.Mark()}, [2]int{pending, 3})
	}
}

// A page of refs that is loaded so.
func TestP10_3IncOfALoadedOne(t *testing.T) {
	p := load(t, maxRefs, maxRefs, maxRefs-1)
	inc(t, p, 1, errRefs)
	inc(t, p, 2, 0)
	inc(t, p, 2, errRefs)
	equal(t, "Mark", p.Mark(), 1)
}

// What there is, with a page in each of the four states, and of numbers that are
// no page and no state.
func TestP10_4WhatThereIs(t *testing.T) {
	p := load(t, 7, 3, 0, 1, 0, 7, 0, 2)
	alloc(t, p, 2, 0)
	alloc(t, p, 4, 0)
	dec(t, p, 4, 0, 0)
	inc(t, p, 2, 0)
	dec(t, p, 3, 0, 0)
	dec(t, p, 7, 1, 0)
	dec(t, p, 7, 0, 0)
	equal(t, "Len, Refs", [2]int{p.Len(), p.Refs()}, [2]int{7, 7})
	equalLists(t, "Counts", p.Counts(), []int{3, 2, 0, 0, 7, 0, 0})
	equalLists(t, "states", states(p), []int{held, fresh, pending, free, held, free, pending})
	for i, n := range somePages(7)[:13] {
		equal(t, fmt.Sprintf("Count, State of no page, the %dth", i), [2]int{p.Count(n), p.State(n)}, [2]int{})
	}
	for i, c := range []int{3, 2, 0, 0, 7, 0, 0} {
		equal(t, "Count", p.Count(i+1), c)
	}
	for _, state := range someStates() {
		var want []int
		switch state {
		case free:
			want = []int{4, 6}
		case pending:
			want = []int{3, 7}
		case fresh:
			want = []int{2}
		case held:
			want = []int{1, 5}
		}
		if p.Pages(state) == nil {
			t.Fatalf("Pages(%d) is nil", state)
		}
		equal(t, fmt.Sprintf("Tally(%d)", state), p.Tally(state), len(want))
		equalLists(t, fmt.Sprintf("Pages(%d)", state), listed(p, state), want)
	}
}

func TestP10_4StatesAreThoseOfApi(t *testing.T) {
	equal(t, "states", [4]int{api.Free, api.Pending, api.Fresh, api.Held}, [4]int{free, pending, fresh, held})
	equal(t, "errors", [5]api.Errno{api.OK, api.ErrArg, api.ErrSpace, api.ErrRefs, api.ErrPage}, [5]api.Errno{0, errArg, errSpace, errRefs, errPage})
}

// What asks changes nothing.
func TestP10_4AskingChangesNothing(t *testing.T) {
	p := load(t, 3, 1, 0, 2, 0, 1)
	alloc(t, p, 2, 0)
	dec(t, p, 5, 0, 0)
	before := look(p)
	for range 3 {
		equal(t, "what is to be seen", look(p), before)
		equal(t, "Mark", p.Mark(), 2)
	}
	equal(t, "Undo(0)", p.Undo(0), true)
	equalLists(t, "Counts", p.Counts(), []int{1, 0, 2, 0, 1})
}
