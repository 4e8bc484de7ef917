package vault_test

import (
	"fmt"
	"testing"

	"coppice/api"
	"coppice/draw"
)

// actNames is the calls that are acts, some of them several times, so that there
// are pages to be given back.
func actNames() []string {
	return []string{"Make", "Make", "Make", "Write", "Write", "Shadow", "Shadow", "Take", "Keep", "Keep", "Drop", "Drop"}
}

// Rows of calls, drawn at random, held against the slow model.
func TestRowsOfCalls(t *testing.T) {
	r := draw.Numbers(11)
	met := map[string]int{}
	for range 900 {
		v, m := someVault(t, &r)
		for range 40 {
			c := someCall(&r, v, append(actNames(), "Undo", "Settle")...)
			before, mark := look(v), v.Mark()
			same(t, "row", v, m, c)
			equal(t, "the tallies together", v.Tally(free)+v.Tally(pending)+v.Tally(fresh)+v.Tally(held), v.Len())
			// What is refused once is refused once more.
			if behind := v.Mark(); c.name != "Undo" && behind == mark && look(v) == before {
				_, e := c.on(v)
				met[fmt.Sprintf("%s %d", c.name, e)]++
				equal(t, "twice", look(v), before)
			} else {
				met[c.name]++
			}
		}
	}
	for _, want := range []string{"Make", "Write", "Shadow", "Take", "Keep", "Drop", "Undo", "Settle",
		"Make 5", "Make 7", "Make 8", "Make 11", "Make 12", "Make 15", "Make 22", "Write 5", "Write 15", "Write 22",
		"Shadow 0", "Shadow 12", "Shadow 13", "Shadow 15", "Take 13", "Take 15", "Keep 13", "Keep 15", "Drop 15"} {
		if met[want] < 10 {
			t.Errorf("%s was met %d times", want, met[want])
		}
	}
}

// All rows of four calls on three pages, on a vault that is new and on two that are
// loaded.
func TestAllShortRows(t *testing.T) {
	calls := []call{mk(B(0)), mk(N(1, 2)), wr(1, B(2)), wr(2, V(1, 3)), sh(1), sh(2), tk(1), tk(2), kp(1), kp(2), dr(1), dr(2), dr(3), un(0), un(1), un(2), settle()}
	row := make([]call, 4)
	var each func(at int, counts []int, pages ...api.Page)
	each = func(at int, counts []int, pages ...api.Page) {
		if at < len(row) {
			for _, c := range calls {
				row[at] = c
				each(at+1, counts, pages...)
			}
			return
		}
		v, m := load(t, 2, counts, pages...), modelOf(2, counts, pages...)
		for i, c := range row {
			a, _ := c.on(v)
			if b, _ := c.on(m); a != b {
				t.Fatalf("%v on %v, call %d: %s, want %s", row, counts, i, a, b)
			}
		}
		for n := 1; n <= 3; n++ {
			p, _ := v.Read(n)
			q, _ := m.Read(n)
			if v.Count(n) != m.Count(n) || v.State(n) != m.State(n) || text(p) != text(q) {
				t.Fatalf("%v on %v: page %d: %d, %d, %s; want %d, %d, %s", row, counts, n, v.Count(n), v.State(n), text(p), m.Count(n), m.State(n), text(q))
			}
		}
		equal(t, "Mark", v.Mark(), m.Mark())
	}
	each(0, []int{0, 0, 0})
	each(0, []int{2, 1, 0}, N(2, 2), B(1))
	each(0, []int{1, 0, 2}, V(3, 3), api.Page{}, L("c"))
}

// A vault on which acts were undone, beside one on which they were never called.
func TestP11_11UndoneIsAsNeverDone(t *testing.T) {
	r := draw.Numbers(1111)
	for range 400 {
		begin := r
		v, _ := someVault(t, &r)
		w, _ := someVault(t, &begin)
		for range r.Below(8) {
			same(t, "two alike", v, w, someCall(&r, v, append(actNames(), "Settle")...))
		}
		mark := v.Mark()
		for range r.Below(10) {
			someCall(&r, v, actNames()...).on(v)
		}
		equal(t, "Undo", v.Undo(mark), true)
		equal(t, "what is to be seen", look(v), look(w))
		for range 12 {
			same(t, "behind Undo", v, w, someCall(&r, v, append(actNames(), "Undo", "Settle")...))
		}
	}
}

// Behind Settle a vault is as one that is loaded with what there is.
func TestP11_12BehindSettle(t *testing.T) {
	r := draw.Numbers(1112)
	for range 400 {
		v, _ := someVault(t, &r)
		for range r.Below(12) {
			someCall(&r, v, append(actNames(), "Settle")...).on(v)
		}
		v.Settle()
		pages := make([]api.Page, v.Len())
		for n, p := range v.Pages(held) {
			pages[n-1] = p
		}
		w := load(t, v.Refs(), v.Counts(), pages...)
		equal(t, "what is to be seen", look(v), look(w))
		for range 12 {
			c := someCall(&r, v, append(actNames(), "Settle")...)
			a, _ := c.on(v)
			b, _ := c.on(w)
			equal(t, c.String(), a, b)
			equal(t, "what is to be seen", look(v), look(w))
		}
	}
}

// P11.13: what stands on a page that is Held or Pending stays, and so does that it
// lasts, till Settle.
func TestP11_13WhatLastsStays(t *testing.T) {
	r := draw.Numbers(1113)
	changed := 0
	for range 300 {
		v, _ := someVault(t, &r)
		lasts := lasting(v)
		for range 40 {
			c := someCall(&r, v, append(actNames(), "Undo", "Settle")...)
			c.on(v)
			if c.name == "Settle" {
				lasts = lasting(v)
				changed++
			}
			equal(t, c.String(), lasting(v), lasts)
		}
	}
	if changed < 300 {
		t.Fatalf("%d Settles", changed)
	}
}

// lasting is what stands on the pages that are Held or Pending, in the order of
// their numbers.
func lasting(v called) string {
	s := ""
	for n := 1; n <= v.Len(); n++ {
		for _, state := range []int{held, pending} {
			for m, p := range v.Pages(state) {
				if m == n {
					s += fmt.Sprintf("%d: %s; ", n, text(p))
				}
			}
		}
	}
	return s
}

// Two vaults know nothing of each other.
func TestR5TwoVaults(t *testing.T) {
	v, w := fourStates(t), fourStates(t)
	before, mark := look(w), w.Mark()
	for _, c := range []call{mk(L("x")), wr(3, L("y")), sh(5), tk(7), kp(1), dr(7), settle(), dr(5), mk(L("z"))} {
		if _, e := c.on(v); e != 0 {
			t.Fatalf("%v: %d", c, e)
		}
	}
	equal(t, "the other one", look(w), before)
	equal(t, "the other one's Mark", w.Mark(), mark)
	equal(t, "Undo(Mark - 1)", w.Undo(mark-1), true)
}
