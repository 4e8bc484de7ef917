package vault_test

import (
	"fmt"
	"slices"
	"testing"

	"coppice/api"
	"coppice/vault"
)

// The chapter's table, row by row, on one vault.
func TestExamplesOfTheChapter(t *testing.T) {
	v := newVault(t, 6, 3)
	makes(t, v, L("a"), 1, 0)
	makes(t, v, L("p"), 2, 0)
	makes(t, v, N(1, 2), 3, 0)
	makes(t, v, L(), 0, errForm)
	keeps(t, v, 3, 0)
	equal(t, "Count(3)", v.Count(3), 2)
	shadows(t, v, 3, 4, 0)
	equal(t, "row 2", [3]int{v.Count(3), v.Count(1), v.Count(2)}, [3]int{1, 2, 2})
	shadows(t, v, 4, 4, 0)
	writes(t, v, 4, N(2, 1), 0)
	writes(t, v, 1, L("b"), errPage)
	reads(t, v, 1, L("a"), 0)
	equal(t, "Mark()", v.Mark(), 6)
	drops(t, v, 3, 0)
	equal(t, "row 4", [2]int{v.Count(1), v.State(3)}, [2]int{1, free})
	drops(t, v, 3, errPage)
	equal(t, "Mark()", v.Mark(), 7)
	equal(t, "Undo(6)", v.Undo(6), true)
	equal(t, "row 5", [3]int{v.Count(1), v.State(3), v.Mark()}, [3]int{2, fresh, 6})
	equal(t, "Undo(6)", v.Undo(6), true)
	equal(t, "Undo(7)", v.Undo(7), false)
	v.Settle()
	equal(t, "State(3)", v.State(3), held)
	equal(t, "Undo(5)", v.Undo(5), false)
	equal(t, "Undo(6)", v.Undo(6), true)
	shadows(t, v, 3, 5, 0)
	equal(t, "row 6", [2]int{v.State(3), v.Tally(pending)}, [2]int{pending, 1})
	makes(t, v, B(0), 6, 0)
	makes(t, v, B(0), 0, errSpace)
	drops(t, v, 6, 0)
	makes(t, v, B(5), 6, 0)
	takes(t, v, 4, N(2, 1), 0)
	equal(t, "row 8", [3]int{v.Count(4), v.Count(1), v.Tally(pending)}, [3]int{0, 2, 2})
	reads(t, v, 4, api.Page{}, errPage)
	keeps(t, v, 5, 0)
	keeps(t, v, 5, 0)
	keeps(t, v, 5, errRefs)
	w, e := vault.Load(3, []int{1, 0, 2}, []api.Numbered{{No: 3, Page: L("z")}, {No: 1, Page: B(3)}})
	equal(t, "Load", e, 0)
	equal(t, "State(2)", w.State(2), free)
	drops(t, w, 1, 0)
	equal(t, "Count(3)", w.Count(3), 1)
	one := numbered(L("a"))
	refusedLoad(t, 3, []int{4}, one, errRefs)
	refusedLoad(t, 3, []int{1}, nil, errNone)
	refusedLoad(t, 3, []int{0}, one, errPage)
	refusedLoad(t, 3, []int{1}, slices.Concat(one, one), errTwice)
	refusedLoad(t, 1, []int{1}, one, errArg)
}

func refusedLoad(t *testing.T, refs int, counts []int, l []api.Numbered, want api.Errno) {
	t.Helper()
	if v, e := vault.Load(refs, counts, l); v != nil || e != want {
		t.Fatalf("Load(%d, %d counts, %d pages) = %v, %d; want %d", refs, len(counts), len(l), v, e, want)
	}
}

func TestP11_1NewAtItsLimits(t *testing.T) {
	for _, pages := range []int{1, 2, 8, 65535, maxPages} {
		for _, refs := range []int{minRefs, 3, 65534, maxRefs} {
			v := newVault(t, pages, refs)
			equal(t, "Len, Refs, Mark", [3]int{v.Len(), v.Refs(), v.Mark()}, [3]int{pages, refs, 0})
			equal(t, "tallies", tallies(v), [4]int{pages, 0, 0, 0})
			equalLists(t, "Counts()", v.Counts(), make([]int, pages))
			makes(t, v, B(0), 1, 0)
		}
	}
}

func TestP11_1NewBeyondItsLimits(t *testing.T) {
	for _, pages := range []int{least, -1, 0, maxPages + 1, maxPages + 2, 1<<32 + 1, greatest} {
		refusedNew(t, pages, minRefs)
		refusedNew(t, pages, maxRefs)
		refusedNew(t, pages, 0)
	}
	for _, refs := range []int{least, -1, 0, 1, maxRefs + 1, maxRefs + 2, 1<<32 + 2, greatest} {
		refusedNew(t, 1, refs)
		refusedNew(t, maxPages, refs)
	}
}

func refusedNew(t *testing.T, pages, refs int) {
	t.Helper()
	if v, e := vault.New(pages, refs); v != nil || e != errArg {
		t.Fatalf("New(%d, %d) = %v, %d; want ErrArg", pages, refs, v, e)
	}
}

// Pages of l may come in any order.
func TestP11_2LoadInAnyOrder(t *testing.T) {
	counts := []int{1, 0, 3, 0, 2}
	l := []api.Numbered{{No: 1, Page: N(3, 9)}, {No: 3, Page: V(2, 5)}, {No: 5, Page: B(3)}}
	for _, order := range [][]int{{0, 1, 2}, {0, 2, 1}, {1, 0, 2}, {1, 2, 0}, {2, 0, 1}, {2, 1, 0}} {
		v, e := vault.Load(3, counts, []api.Numbered{l[order[0]], l[order[1]], l[order[2]]})
		equal(t, "Load", e, 0)
		equal(t, "Len, Refs, Mark", [3]int{v.Len(), v.Refs(), v.Mark()}, [3]int{5, 3, 0})
		equalLists(t, "Counts()", v.Counts(), counts)
		equalLists(t, "states", states(v), []int{held, free, held, free, held})
		reads(t, v, 1, N(3, 9), 0)
		reads(t, v, 3, V(2, 5), 0)
		reads(t, v, 5, B(3), 0)
		equal(t, "Undo(-1)", v.Undo(-1), false)
		equal(t, "Undo(0)", v.Undo(0), true)
		equal(t, "Undo(1)", v.Undo(1), false)
	}
}

// A list that is none is right where no page has a count above 0.
func TestP11_2LoadOfNone(t *testing.T) {
	for _, l := range [][]api.Numbered{nil, {}} {
		v, e := vault.Load(2, []int{0, 0, 0}, l)
		equal(t, "Load", e, 0)
		equal(t, "what is to be seen", look(v), look(newVault(t, 3, 2)))
		makes(t, v, L("a"), 1, 0)
		refusedLoad(t, 2, []int{0, 0, 1}, l, errNone)
		refusedLoad(t, 2, nil, l, errArg)
		refusedLoad(t, 2, []int{}, l, errArg)
	}
}

func TestP11_2LoadAtItsLimits(t *testing.T) {
	for _, pages := range []int{1, maxPages} {
		counts, l := make([]int, pages), []api.Numbered(nil)
		for i := range counts {
			counts[i] = 1 + i%2*(maxRefs-1)
			l = append(l, api.Numbered{No: i + 1, Page: B(i + 1)})
		}
		v, e := vault.Load(maxRefs, counts, l)
		equal(t, "Load", e, 0)
		equal(t, "tallies", tallies(v), [4]int{0, 0, 0, pages})
		equalLists(t, "Counts()", v.Counts(), counts)
		reads(t, v, pages, B(pages), 0)
		refusedLoad(t, maxRefs, append(counts, make([]int, maxPages+1-pages)...), l, errArg)
		refusedLoad(t, maxRefs+1, counts, l, errArg)
		refusedLoad(t, minRefs-1, counts, l, errArg)
		l[len(l)-1].No = 0
		refusedLoad(t, maxRefs, counts, l, errPage)
		refusedLoad(t, maxRefs, counts, l[:len(l)-1], errNone)
	}
}

// Each wrong argument alone.
func TestP11_2LoadsErrors(t *testing.T) {
	right := numbered(L("a"), api.Page{}, N(1, 1))
	for _, refs := range []int{least, -1, 0, 1, 65536, greatest} {
		refusedLoad(t, refs, []int{2, 0, 2}, right, errArg)
	}
	for _, c := range []int{least, -1, 3, 65536, greatest} {
		refusedLoad(t, 2, []int{2, c, 2}, right, errRefs)
		refusedLoad(t, 2, []int{c, 0, 2}, right, errRefs)
		refusedLoad(t, 2, []int{2, 0, c}, right, errRefs)
	}
	for _, no := range append(noPages(3), 2) {
		refusedLoad(t, 2, []int{2, 0, 2}, append(right, api.Numbered{No: no, Page: L("a")}), errPage)
	}
	for _, x := range right {
		refusedLoad(t, 2, []int{2, 0, 2}, append(right, x), errTwice)
		refusedLoad(t, 2, []int{2, 0, 2}, []api.Numbered{x}, errNone)
		for want, p := range wrongPages() {
			l := slices.Clone(right)
			l[x.No/2].Page = p
			refusedLoad(t, 2, []int{2, 0, 2}, l, want)
		}
	}
}

// fault makes one argument of a right Load of the counts 1 0 1 1 wrong. The number
// is where it stands among the errors: those of one page of l in the order in
// which they are named, those of an earlier page ahead of a later one's.
type fault struct {
	place int
	want  api.Errno
	apply func(refs *int, counts *[]int, l *[]api.Numbered)
}

func faults() []fault {
	list := []fault{
		{0, errArg, func(refs *int, _ *[]int, _ *[]api.Numbered) { *refs = 1 }},
		{0, errArg, func(refs *int, _ *[]int, _ *[]api.Numbered) { *refs = 65536 }},
		{0, errArg, func(_ *int, counts *[]int, _ *[]api.Numbered) { *counts = append(*counts, make([]int, maxPages)...) }},
		{1, errRefs, func(_ *int, counts *[]int, _ *[]api.Numbered) { (*counts)[0] = -1 }},
		{1, errRefs, func(_ *int, counts *[]int, _ *[]api.Numbered) { (*counts)[3] = 3 }},
		// Behind all of l: a page with a count above 0 that stands in none of it.
		{90, errNone, func(_ *int, counts *[]int, _ *[]api.Numbered) { (*counts)[1] = 1 }},
	}
	for i := range 3 {
		list = append(list, fault{10 + 10*i, errPage, func(_ *int, _ *[]int, l *[]api.Numbered) { (*l)[i].No = 9 }})
		list = append(list, fault{12 + 10*i, errKind, func(_ *int, _ *[]int, l *[]api.Numbered) { (*l)[i].Page = api.Page{} }})
		list = append(list, fault{12 + 10*i, errForm, func(_ *int, _ *[]int, l *[]api.Numbered) { (*l)[i].Page.Level = 30 }})
	}
	for i := 1; i < 3; i++ {
		list = append(list, fault{11 + 10*i, errTwice, func(_ *int, _ *[]int, l *[]api.Numbered) { (*l)[i].No = (*l)[0].No }})
	}
	return list
}

// Two faults at a time: the one that stands first is told.
func TestP11_2LoadsErrorsInTheirOrder(t *testing.T) {
	for _, a := range faults() {
		for _, b := range faults() {
			// A number that is no page of the vault is not there twice.
			oneNumber := a.want == errPage && b.want == errTwice && b.place-a.place == 1
			if a.place >= b.place || oneNumber {
				continue
			}
			for _, both := range [][]fault{{a, b}, {b, a}} {
				refs, counts := 2, []int{1, 0, 1, 1}
				l := []api.Numbered{{No: 3, Page: L("a")}, {No: 1, Page: B(2)}, {No: 4, Page: N(1, 2)}}
				for _, f := range both {
					f.apply(&refs, &counts, &l)
				}
				refusedLoad(t, refs, counts, l, a.want)
			}
		}
	}
}

// What the pages of l lead to is not looked at.
func TestP11_2LoadLooksAtNoChildren(t *testing.T) {
	v := load(t, 2, []int{1, 0, 2}, N(9, 65536), api.Page{}, B(2))
	equalLists(t, "Counts", v.Counts(), []int{1, 0, 2})
	reads(t, v, 1, N(9, 65536), 0)
	reads(t, v, 3, B(2), 0)
}

// fourStates is a vault with pages in each of the four states, two each: 1 and 5
// are Held, 2 and 6 Pending, 3 and 7 Fresh, 4 and 8 Free. Its refs are 4.
func fourStates(t *testing.T) *vault.Vault {
	t.Helper()
	v := load(t, 4, []int{1, 1, 0, 0, 2, 1, 0, 0}, L("a"), B(3), api.Page{}, api.Page{}, N(1, 3), L("f"))
	makes(t, v, V(5), 3, 0)
	makes(t, v, B(0), 4, 0)
	makes(t, v, B(3), 7, 0)
	drops(t, v, 4, 0)
	drops(t, v, 6, 0)
	takes(t, v, 2, B(3), 0)
	keeps(t, v, 7, 0)
	equalLists(t, "Counts", v.Counts(), []int{1, 0, 1, 0, 2, 0, 2, 0})
	equalLists(t, "states", states(v), []int{held, pending, fresh, free, held, pending, fresh, free})
	return v
}

func TestP11_3WhatIsThere(t *testing.T) {
	v := fourStates(t)
	equal(t, "Len, Refs", [2]int{v.Len(), v.Refs()}, [2]int{8, 4})
	equal(t, "tallies", tallies(v), [4]int{2, 2, 2, 2})
	unchanged(t, v, func() {
		reads(t, v, 1, L("a"), 0)
		reads(t, v, 3, V(5), 0)
		reads(t, v, 5, N(1, 3), 0)
		reads(t, v, 7, B(3), 0)
		for _, n := range []int{2, 4, 6, 8} {
			reads(t, v, n, api.Page{}, errPage)
			equal(t, "Count", v.Count(n), 0)
		}
		for _, n := range noPages(8) {
			reads(t, v, n, api.Page{}, errPage)
			equal(t, fmt.Sprintf("Count, State of %d", n), [2]int{v.Count(n), v.State(n)}, [2]int{})
		}
		for _, state := range someStates()[4:] {
			equal(t, fmt.Sprintf("Tally(%d)", state), v.Tally(state), 0)
		}
	})
	v.Settle()
	equalLists(t, "Counts", v.Counts(), []int{1, 0, 1, 0, 2, 0, 2, 0})
	equal(t, "tallies", tallies(v), [4]int{4, 0, 0, 4})
}

func TestP11_4MakeOfEachKind(t *testing.T) {
	great := L()
	for i := range mostItems {
		great.Items = append(great.Items, api.Item{Key: slices.Repeat([]byte{byte(i)}, 24), Value: slices.Repeat([]byte{9}, 32), Size: 32})
	}
	index := N(65536, 7, 7, 1, 2, 3, 4, 5)
	index.Level = 11
	list := []api.Page{L("a"), great, V(), V(1), V(9, 9, 9), N(1, 1), N(99, 65536), index, B(0), B(1), B(65536), {Kind: blobKind, Data: slices.Repeat([]byte{1}, mostInBlob), Next: 2}}
	v := newVault(t, len(list), 2)
	for i, p := range list {
		makes(t, v, p, i+1, 0)
		equal(t, "Mark", v.Mark(), i+1)
	}
	for i, p := range list {
		reads(t, v, i+1, p, 0)
	}
	equalLists(t, "Counts", v.Counts(), slices.Repeat([]int{1}, len(list)))
	equal(t, "tallies", tallies(v), [4]int{0, 0, len(list), 0})
	unchanged(t, v, func() { makes(t, v, B(0), 0, errSpace) })
}

func TestP11_4MakeOfWrongPages(t *testing.T) {
	v := newVault(t, 2, 2)
	for round := range 3 {
		for want, p := range wrongPages() {
			// In the last round no page is Free, which is told behind that.
			unchanged(t, v, func() { makes(t, v, p, 0, want) })
		}
		if round < 2 {
			makes(t, v, B(0), round+1, 0)
		}
	}
	unchanged(t, v, func() { makes(t, v, B(0), 0, errSpace) })
}

// The lowest Free page is handed out, and Pending ones are not.
func TestP11_4MakeTakesTheLowest(t *testing.T) {
	v := fourStates(t)
	makes(t, v, L("x"), 4, 0)
	makes(t, v, L("y"), 8, 0)
	unchanged(t, v, func() { makes(t, v, L("z"), 0, errSpace) })
	drops(t, v, 8, 0)
	drops(t, v, 4, 0)
	makes(t, v, L("x"), 4, 0)
	v.Settle()
	makes(t, v, L("y"), 2, 0)
	makes(t, v, L("z"), 6, 0)
	makes(t, v, L("w"), 8, 0)
	unchanged(t, v, func() { makes(t, v, L("z"), 0, errSpace) })
}

func TestP11_4MakeUpToTheLastPage(t *testing.T) {
	v := newVault(t, maxPages, 2)
	for n := 1; n <= maxPages; n++ {
		makes(t, v, B(n), n, 0)
	}
	makes(t, v, B(0), 0, errSpace)
	equal(t, "tallies, Mark", [3]int{v.Tally(free), v.Tally(fresh), v.Mark()}, [3]int{0, maxPages, maxPages})
	for n := 1; n <= maxPages; n++ {
		reads(t, v, n, B(n), 0)
	}
	equal(t, "Undo(1)", v.Undo(1), true)
	equal(t, "tallies, Mark", [3]int{v.Tally(free), v.Tally(fresh), v.Mark()}, [3]int{maxPages - 1, 1, 1})
	makes(t, v, B(0), 2, 0)
}

func TestP11_5Write(t *testing.T) {
	v := newVault(t, 3, 2)
	makes(t, v, L("a"), 1, 0)
	makes(t, v, B(1), 2, 0)
	for i, p := range []api.Page{B(2), N(1, 2), N(9, 9), V(1, 1), L("b"), L("b")} {
		writes(t, v, 1, p, 0)
		reads(t, v, 1, p, 0)
		reads(t, v, 2, B(1), 0)
		equalLists(t, "Counts", v.Counts(), []int{1, 1, 0})
		equalLists(t, "states", states(v), []int{fresh, fresh, free})
		equal(t, "Mark", v.Mark(), 3+i)
	}
}

// On no page that isn't its own shadow anything is written, whatever it is.
func TestP11_5WriteIsRefused(t *testing.T) {
	v := fourStates(t)
	// 3 alone is its own shadow: 1 and 5 are Held, 7 has the count 2.
	for _, n := range append(noPages(8), 1, 2, 4, 5, 6, 7, 8) {
		unchanged(t, v, func() {
			writes(t, v, n, L("z"), errPage)
			for _, p := range wrongPages() {
				writes(t, v, n, p, errPage)
			}
		})
	}
	for want, p := range wrongPages() {
		unchanged(t, v, func() { writes(t, v, 3, p, want) })
	}
	writes(t, v, 3, L("z"), 0)
	keeps(t, v, 3, 0)
	unchanged(t, v, func() { writes(t, v, 3, L("y"), errPage) })
	drops(t, v, 3, 0)
	writes(t, v, 3, L("y"), 0)
	drops(t, v, 7, 0)
	writes(t, v, 7, L("x"), 0)
	v.Settle()
	unchanged(t, v, func() { writes(t, v, 3, L("y"), errPage) })
	unchanged(t, v, func() { writes(t, v, 7, L("y"), errPage) })
}
