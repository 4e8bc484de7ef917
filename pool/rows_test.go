package pool_test

import (
	"testing"

	"coppice/draw"
	"coppice/pool"
)

// Rows of calls, drawn at random, held against the slow model.
func TestRowsOfCalls(t *testing.T) {
	r := draw.Numbers(10)
	for range 400 {
		refs := []int{minRefs, 3, 5, maxRefs}[r.Below(4)]
		counts := someCounts(&r, 1+r.Below(8), refs)
		if r.Below(3) == 0 {
			clear(counts)
		}
		p, m := load(t, refs, counts...), modelOf(refs, counts...)
		for range 40 {
			c := someCall(&r, p.Len(), "Alloc", "Alloc", "Alloc", "Inc", "Inc", "Dec", "Dec", "Dec", "Undo", "Mark", "Settle", "look")
			if c.name == "Undo" {
				c.n = someMark(&r, m.Mark())
			}
			same(t, "row", p, m, c)
			tallies(t, p)
		}
		equal(t, "Mark", p.Mark(), m.Mark())
	}
}

// All rows of five calls on two pages, on a pool that is new and on one that is
// loaded.
func TestAllShortRows(t *testing.T) {
	calls := []call{{"Alloc", 0}, {"Inc", 1}, {"Inc", 2}, {"Dec", 1}, {"Dec", 2}, {"Undo", 0}, {"Undo", 1}, {"Undo", 2}, {"Settle", 0}}
	row := make([]call, 5)
	var each func(at int, counts []int)
	each = func(at int, counts []int) {
		if at < len(row) {
			for _, c := range calls {
				row[at] = c
				each(at+1, counts)
			}
			return
		}
		p, m := load(t, 2, counts...), modelOf(2, counts...)
		for i, c := range row {
			if a, b := c.on(p), c.on(m); a != b {
				t.Fatalf("%v on %v, call %d: %s, want %s", row, counts, i, a, b)
			}
		}
		for n := 1; n <= 2; n++ {
			if p.Count(n) != m.Count(n) || p.State(n) != m.State(n) || p.Mark() != m.Mark() {
				t.Fatalf("%v on %v: page %d has the count %d and the state %d, Mark is %d; want %d, %d, %d", row, counts, n, p.Count(n), p.State(n), p.Mark(), m.Count(n), m.State(n), m.Mark())
			}
		}
		tallies(t, p)
	}
	each(0, []int{0, 0})
	each(0, []int{1, 0})
	each(0, []int{0, 2})
}

// tallies: P10.7.
func tallies(t *testing.T, p *pool.Pool) {
	t.Helper()
	all := 0
	for state := free; state <= held; state++ {
		tally, gone, last := p.Tally(state), 0, 0
		for n := range p.Pages(state) {
			if n <= last || p.State(n) != state {
				t.Fatalf("Pages(%d) goes over %d behind %d, its state is %d", state, n, last, p.State(n))
			}
			gone, last = gone+1, n
		}
		equal(t, "Tally", tally, gone)
		all += tally
	}
	equal(t, "the tallies together", all, p.Len())
}

func TestP10_7Tallies(t *testing.T) {
	r := draw.Numbers(107)
	for range 50 {
		counts := someCounts(&r, 1+r.Below(200), 9)
		p := load(t, 9, counts...)
		tallies(t, p)
		for range 100 {
			someCall(&r, p.Len(), "Alloc", "Inc", "Dec", "Dec", "Settle", "Undo").on(p)
			tallies(t, p)
		}
	}
}

// P10.8: what lasts is handed out by no Alloc, however it was done to, and what
// is handed out was the lowest one that was Free.
func TestP10_8WhatLastsIsLeftAlone(t *testing.T) {
	r := draw.Numbers(108)
	allocs, full := 0, 0
	for range 300 {
		counts := someCounts(&r, 1+r.Below(9), 3)
		p := load(t, 3, counts...)
		lasts := counts
		for range 60 {
			c := someCall(&r, p.Len(), "Alloc", "Alloc", "Inc", "Dec", "Dec", "Dec", "Undo", "Settle")
			if c.name == "Undo" {
				c.n = p.Mark() - r.Below(4)
			}
			if c.name != "Alloc" {
				c.on(p)
				if c.name == "Settle" {
					lasts = p.Counts()
				}
				continue
			}
			before := states(p)
			n, e := p.Alloc()
			lowest := 0
			for i, state := range before {
				if state == free && lowest == 0 {
					lowest = i + 1
				}
			}
			equal(t, "Alloc", n, lowest)
			if e != 0 {
				full++
				continue
			}
			allocs++
			equal(t, "what the page had in what lasts", lasts[n-1], 0)
			equal(t, "Count, State", [2]int{p.Count(n), p.State(n)}, [2]int{1, fresh})
		}
	}
	if allocs < 500 || full < 500 {
		t.Fatalf("%d pages were handed out, %d times there was none", allocs, full)
	}
}
