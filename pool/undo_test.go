package pool_test

import (
	"fmt"
	"slices"
	"testing"

	"coppice/draw"
	"coppice/pool"
)

// scripts is rows of calls with acts of each kind and of each state that they
// lead to, calls that are refused, and Settle at the beginning, between and at
// the end; all on the counts 1 0 2 0 3 of refs 3.
func scripts() [][]call {
	return [][]call{
		{},
		{{"Settle", 0}},
		{{"Alloc", 0}},
		{{"Inc", 1}},
		{{"Dec", 1}},
		{{"Inc", 5}, {"Inc", 2}, {"Dec", 4}, {"Dec", 0}, {"Inc", 6}},
		{{"Alloc", 0}, {"Alloc", 0}, {"Alloc", 0}, {"Inc", 2}, {"Dec", 4}, {"Dec", 2}, {"Dec", 2}, {"Dec", 2}},
		{{"Dec", 1}, {"Dec", 1}, {"Alloc", 0}, {"Dec", 2}, {"Alloc", 0}, {"Inc", 2}, {"Inc", 3}, {"Inc", 3}, {"Dec", 5}},
		{{"Dec", 5}, {"Dec", 5}, {"Dec", 5}, {"Dec", 5}, {"Alloc", 0}, {"Settle", 0}, {"Alloc", 0}, {"Alloc", 0}, {"Alloc", 0}, {"Dec", 2}},
		{{"Alloc", 0}, {"Dec", 1}, {"Settle", 0}, {"Settle", 0}, {"Dec", 2}, {"Alloc", 0}, {"Inc", 1}},
		{{"Inc", 1}, {"Undo", 0}, {"Dec", 1}, {"Alloc", 0}, {"Undo", 1}, {"Alloc", 0}, {"Inc", 2}},
		{{"Dec", 3}, {"Settle", 0}, {"Dec", 3}, {"Undo", 0}, {"Undo", 1}, {"Dec", 3}, {"Settle", 0}, {"Alloc", 0}, {"Undo", 2}, {"Alloc", 0}, {"Settle", 0}},
	}
}

// ran is a pool and a model behind a script.
func ran(t *testing.T, script []call) (*pool.Pool, *model) {
	t.Helper()
	counts := []int{1, 0, 2, 0, 3}
	p, m := load(t, 3, counts...), modelOf(3, counts...)
	for _, c := range script {
		same(t, "script", p, m, c)
	}
	equal(t, "Mark", p.Mark(), m.Mark())
	return p, m
}

// Undo of every mark from below the floor to above Mark, twice over, and how the
// pool goes on from there.
func TestP10_5UndoOfEveryMark(t *testing.T) {
	for i, script := range scripts() {
		_, m := ran(t, script)
		marks := []int{least, least + 1, -1 << 32, greatest - 1, greatest, 1 << 32}
		for mark := -3; mark <= m.Mark()+3; mark++ {
			marks = append(marks, mark)
		}
		for _, mark := range marks {
			p, m := ran(t, script)
			what := fmt.Sprintf("script %d, Undo(%d)", i, mark)
			floor, last := m.floor, m.Mark()
			for range 2 {
				equal(t, what, p.Undo(mark), mark >= floor && mark <= last)
				m.Undo(mark)
				equal(t, what+", then", look(p), look(m))
				equal(t, what+", then Mark", p.Mark(), m.Mark())
				if mark >= floor && mark <= last {
					equal(t, what+", then Mark", p.Mark(), mark)
				} else {
					equal(t, what+", then Mark", p.Mark(), last)
				}
			}
			for _, c := range []call{{"Alloc", 0}, {"Dec", 1}, {"Inc", 3}, {"Undo", mark + 1}, {"Undo", mark}, {"Undo", mark - 1}, {"Dec", 5}, {"Settle", 0}, {"Undo", mark}} {
				same(t, what, p, m, c)
			}
			equal(t, what+", at the end Mark", p.Mark(), m.Mark())
		}
	}
}

// Undo of one mark behind the other, downwards.
func TestP10_5UndoOneByOne(t *testing.T) {
	for _, script := range scripts() {
		p, m := ran(t, script)
		for mark := m.Mark(); mark >= -1; mark-- {
			same(t, "one by one", p, m, call{"Undo", mark})
			equal(t, "Mark", p.Mark(), max(mark, m.floor))
		}
	}
}

// Mark counts acts alone, not calls that are refused or that ask.
func TestP10_5MarkCountsActs(t *testing.T) {
	p := newPool(t, 2, 2)
	mark := func(want int) {
		t.Helper()
		equal(t, "Mark", p.Mark(), want)
	}
	mark(0)
	alloc(t, p, 1, 0)
	mark(1)
	inc(t, p, 1, 0)
	mark(2)
	inc(t, p, 1, errRefs)
	inc(t, p, 2, errPage)
	dec(t, p, 2, 0, errPage)
	mark(2)
	alloc(t, p, 2, 0)
	mark(3)
	alloc(t, p, 0, errSpace)
	mark(3)
	dec(t, p, 1, 1, 0)
	dec(t, p, 1, 0, 0)
	mark(5)
	look(p)
	mark(5)
	equal(t, "Undo(6)", p.Undo(6), false)
	mark(5)
	equal(t, "Undo(2)", p.Undo(2), true)
	mark(2)
	equal(t, "Undo(3)", p.Undo(3), false)
	equalLists(t, "Counts", p.Counts(), []int{2, 0})
	p.Settle()
	mark(2)
	alloc(t, p, 2, 0)
	mark(3)
}

// The floor itself and one below it, behind several Settles.
func TestP10_5TheFloor(t *testing.T) {
	p := newPool(t, 9, 2)
	for round := range 5 {
		floor := 2 * round
		equal(t, "Undo(floor - 1)", p.Undo(floor-1), false)
		alloc(t, p, round+1, 0)
		inc(t, p, round+1, 0)
		equal(t, "Undo(floor - 1)", p.Undo(floor-1), false)
		equal(t, "Count", p.Count(round+1), 2)
		equal(t, "Undo(floor)", p.Undo(floor), true)
		equal(t, "Count, State, Mark", [3]int{p.Count(round + 1), p.State(round + 1), p.Mark()}, [3]int{0, free, floor})
		alloc(t, p, round+1, 0)
		inc(t, p, round+1, 0)
		p.Settle()
		equal(t, "Undo(floor)", p.Undo(floor), false)
		equal(t, "Undo(floor + 1)", p.Undo(floor+1), false)
		equal(t, "Undo(floor + 2)", p.Undo(floor+2), true)
		equal(t, "Undo(floor + 3)", p.Undo(floor+3), false)
		equal(t, "Count, State", [2]int{p.Count(round + 1), p.State(round + 1)}, [2]int{2, held})
	}
}

// Many acts on many pages are undone at once.
func TestP10_5ManyActs(t *testing.T) {
	p := newPool(t, maxPages, maxRefs)
	for range maxPages {
		p.Alloc()
	}
	for n := 1; n <= maxPages; n += 3 {
		p.Inc(n)
		p.Dec(n + 1)
	}
	mark := p.Mark()
	equal(t, "Mark", mark, maxPages+2*(maxPages/3)+1)
	for n := 2; n <= maxPages; n += 3 {
		alloc(t, p, n, 0)
	}
	equal(t, "Undo", p.Undo(mark), true)
	equal(t, "tallies", [2]int{p.Tally(free), p.Tally(fresh)}, [2]int{maxPages / 3, maxPages - maxPages/3})
	equal(t, "Undo(1)", p.Undo(1), true)
	equal(t, "tallies", [2]int{p.Tally(free), p.Tally(fresh)}, [2]int{maxPages - 1, 1})
	alloc(t, p, 2, 0)
}

func TestP10_6SettleWithEachState(t *testing.T) {
	p := load(t, 3, 1, 0, 2, 0, 1, 0)
	dec(t, p, 1, 0, 0)
	alloc(t, p, 2, 0)
	inc(t, p, 2, 0)
	equalLists(t, "states", states(p), []int{pending, fresh, held, free, held, free})
	p.Settle()
	equalLists(t, "states", states(p), []int{free, held, held, free, held, free})
	equalLists(t, "Counts", p.Counts(), []int{0, 2, 2, 0, 1, 0})
	equalLists(t, "Pages(Free)", listed(p, free), []int{1, 4, 6})
	equalLists(t, "Pages(Held)", listed(p, held), []int{2, 3, 5})
	equal(t, "Mark", p.Mark(), 3)
	p.Settle()
	equalLists(t, "states", states(p), []int{free, held, held, free, held, free})
	dec(t, p, 2, 1, 0)
	dec(t, p, 2, 0, 0)
	alloc(t, p, 1, 0)
	equalLists(t, "states", states(p), []int{fresh, pending, held, free, held, free})
	p.Settle()
	equalLists(t, "states", states(p), []int{held, free, held, free, held, free})
}

// Every other page, at the greatest number of pages.
func TestP10_6SettleOfManyPages(t *testing.T) {
	counts := make([]int, maxPages)
	for i := 0; i < maxPages; i += 2 {
		counts[i] = 1
	}
	p := load(t, 2, counts...)
	for n := 1; n <= maxPages; n += 2 {
		dec(t, p, n, 0, 0)
		alloc(t, p, n+1, 0)
	}
	alloc(t, p, 0, errSpace)
	equal(t, "tallies", [4]int{p.Tally(free), p.Tally(pending), p.Tally(fresh), p.Tally(held)}, [4]int{0, maxPages / 2, maxPages / 2, 0})
	p.Settle()
	equal(t, "tallies", [4]int{p.Tally(free), p.Tally(pending), p.Tally(fresh), p.Tally(held)}, [4]int{maxPages / 2, 0, 0, maxPages / 2})
	for n := 1; n <= maxPages; n++ {
		equal(t, "State", p.State(n), free+(n+1)%2*(held-free))
	}
	alloc(t, p, 1, 0)
	alloc(t, p, 3, 0)
	equal(t, "Mark", p.Mark(), maxPages+2)
}

// done is a pool behind some calls, and the same calls once more on another one.
func done(t *testing.T, r *draw.Numbers, calls int) (p, q *pool.Pool) {
	t.Helper()
	refs := []int{minRefs, 3, 9, maxRefs}[r.Below(4)]
	counts := someCounts(r, 1+r.Below(7), refs)
	p, q = load(t, refs, counts...), load(t, refs, counts...)
	for range calls {
		c := someCall(r, p.Len(), "Alloc", "Alloc", "Inc", "Dec", "Dec", "Settle")
		same(t, "two alike", p, q, c)
	}
	return p, q
}

// P10.9: a pool on which acts were undone, beside one on which they were never
// called.
func TestP10_9UndoneIsAsNeverDone(t *testing.T) {
	r := draw.Numbers(109)
	for range 800 {
		p, q := done(t, &r, r.Below(8))
		mark := p.Mark()
		for range r.Below(10) {
			c := someCall(&r, p.Len(), "Alloc", "Alloc", "Inc", "Dec", "Dec")
			c.on(p)
		}
		equal(t, "Undo", p.Undo(mark), true)
		equal(t, "what is to be seen", look(p), look(q))
		for range 12 {
			c := someCall(&r, p.Len(), "Alloc", "Alloc", "Inc", "Dec", "Dec", "Mark", "Undo", "Settle")
			if c.name == "Undo" {
				c.n = someMark(&r, q.Mark())
			}
			same(t, "behind Undo", p, q, c)
			equal(t, "Mark", p.Mark(), q.Mark())
		}
	}
}

// P10.10: a pool behind Settle, beside one that is loaded with its counts.
func TestP10_10BehindSettle(t *testing.T) {
	r := draw.Numbers(1010)
	for range 800 {
		p, _ := done(t, &r, r.Below(12))
		p.Settle()
		q := load(t, p.Refs(), p.Counts()...)
		equal(t, "what is to be seen", look(p), look(q))
		for range 12 {
			same(t, "behind Settle", p, q, someCall(&r, p.Len(), "Alloc", "Alloc", "Inc", "Dec", "Dec", "Settle"))
		}
	}
}

// P10.11: of each page of a pool, in each state.
func TestP10_11IncAndThenDec(t *testing.T) {
	r := draw.Numbers(1011)
	seen := map[int]int{}
	for range 400 {
		p, q := done(t, &r, r.Below(12))
		for n := 1; n <= p.Len(); n++ {
			before, mark, count, state := look(p), p.Mark(), p.Count(n), p.State(n)
			if p.Inc(n) != 0 {
				continue
			}
			seen[state]++
			equal(t, "Count", p.Count(n), count+1)
			dec(t, p, n, count, 0)
			equal(t, "Inc and then Dec", look(p), before)
			equal(t, "Mark", p.Mark(), mark+2)
		}
		for range 10 {
			same(t, "behind Inc and Dec", p, q, someCall(&r, p.Len(), "Alloc", "Alloc", "Inc", "Dec", "Dec", "Settle"))
		}
	}
	if seen[fresh] < 50 || seen[held] < 50 || len(seen) != 2 {
		t.Fatalf("Inc was answered OK in the states %v", seen)
	}
}

// Two pools know nothing of each other.
func TestR5TwoPools(t *testing.T) {
	counts := []int{1, 0, 2}
	p, q := load(t, 3, counts...), load(t, 3, counts...)
	before := look(q)
	alloc(t, p, 2, 0)
	dec(t, p, 1, 0, 0)
	p.Settle()
	inc(t, p, 3, 0)
	equal(t, "the other one", look(q), before)
	equal(t, "the other one's Mark", q.Mark(), 0)
	equal(t, "Undo(0)", q.Undo(0), true)
	equal(t, "Undo(1)", q.Undo(1), false)
	equalLists(t, "Counts", p.Counts(), []int{0, 1, 3})
	if slices.Equal(p.Counts(), q.Counts()) {
		t.Fatal("what is done to one pool is done to the other one")
	}
}
