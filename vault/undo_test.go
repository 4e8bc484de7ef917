package vault_test

import (
	"fmt"
	"testing"

	"coppice/api"
	"coppice/vault"
)

// The calls of the scripts, in short.
func mk(p api.Page) call        { return call{"Make", 0, p} }
func wr(n int, p api.Page) call { return call{"Write", n, p} }
func sh(n int) call             { return call{"Shadow", n, api.Page{}} }
func tk(n int) call             { return call{"Take", n, api.Page{}} }
func kp(n int) call             { return call{"Keep", n, api.Page{}} }
func dr(n int) call             { return call{"Drop", n, api.Page{}} }
func un(mark int) call          { return call{"Undo", mark, api.Page{}} }
func settle() call              { return call{"Settle", 0, api.Page{}} }

// scripts is rows of calls with acts of each kind, on pages of each state, calls
// that are refused, and Settle at the beginning, between and at the end; all on
// what start begins with.
func scripts() [][]call {
	return [][]call{
		{},
		{settle()},
		{mk(L("x"))},
		{kp(1)},
		{dr(1)},
		{sh(1)},
		{tk(1)},
		{sh(3), sh(5), tk(3)},
		{mk(L("x")), wr(2, L("y")), wr(2, N(1, 2)), wr(2, B(2)), sh(2), tk(2), tk(2)},
		{mk(L("x")), kp(2), sh(2), wr(4, V(2)), dr(4), dr(2), mk(B(0))},
		// All of these are refused.
		{mk(L()), wr(1, L("x")), wr(2, L("x")), kp(5), kp(2), sh(2), tk(4), dr(2), dr(6), dr(1 << 32), un(1), un(-1)},
		{mk(N(1, 9)), kp(2), sh(2), tk(2), dr(2), dr(2), mk(B(9)), dr(4), tk(4), kp(4), dr(4)},
		{dr(1), dr(1), mk(L("x")), dr(2), mk(B(3)), kp(2), sh(2), sh(2), dr(5), dr(5), dr(5), dr(5)},
		{dr(5), dr(5), dr(5), mk(L("x")), settle(), mk(L("y")), mk(L("z")), mk(L("w")), dr(2), wr(4, B(4)), wr(5, B(4))},
		{mk(V(3)), tk(1), settle(), settle(), dr(2), mk(L("x")), sh(3), wr(1, L("y")), wr(4, L("z"))},
		{kp(1), un(0), dr(1), mk(L("x")), un(1), mk(L("y")), wr(2, L("z")), un(2), kp(2), wr(2, L("w"))},
		{tk(3), settle(), tk(3), un(0), un(1), dr(3), settle(), mk(L("x")), un(2), mk(B(0)), settle()},
	}
}

// start is a vault with the counts 1 0 2 0 3 of refs 3, and a model of it; and both
// behind a script.
func start(t *testing.T, script []call) (*vault.Vault, *model) {
	t.Helper()
	counts, pages := []int{1, 0, 2, 0, 3}, []api.Page{V(3), {}, B(5), {}, L("e")}
	v, m := load(t, 3, counts, pages...), modelOf(3, counts, pages...)
	for _, c := range script {
		same(t, "script", v, m, c)
	}
	return v, m
}

// Undo of every mark from below the last Settle to above Mark, twice over, and how
// the vault goes on from there.
func TestP11_11UndoOfEveryMark(t *testing.T) {
	for i, script := range scripts() {
		_, m := start(t, script)
		marks := []int{least, least + 1, -1 << 32, greatest - 1, greatest, 1 << 32}
		for mark := -3; mark <= m.Mark()+3; mark++ {
			marks = append(marks, mark)
		}
		for _, mark := range marks {
			v, m := start(t, script)
			what := fmt.Sprintf("script %d, Undo(%d)", i, mark)
			last := m.Mark()
			can := mark >= m.floor && mark <= last
			for range 2 {
				equal(t, what, v.Undo(mark), can)
				m.Undo(mark)
				equal(t, what+", then", look(v), look(m))
				equal(t, what+", then Mark", v.Mark(), map[bool]int{true: mark, false: last}[can])
			}
			for _, c := range []call{mk(N(1, 5)), dr(1), sh(3), wr(2, L("q")), un(mark + 1), un(mark), un(mark - 1), tk(5), settle(), mk(L("r")), un(mark)} {
				same(t, what, v, m, c)
			}
		}
	}
}

// Undo of one mark behind the other, downwards.
func TestP11_11UndoOneByOne(t *testing.T) {
	for _, script := range scripts() {
		v, m := start(t, script)
		for mark := m.Mark(); mark >= -1; mark-- {
			same(t, "one by one", v, m, un(mark))
			equal(t, "Mark", v.Mark(), max(mark, m.floor))
		}
	}
}

// What an act is: each of these alone is one, and none of the others.
func TestP11_11MarkCountsActs(t *testing.T) {
	v := newVault(t, 3, 2)
	marks := func(want int, c call, refused bool) {
		t.Helper()
		_, e := c.on(v)
		equal(t, c.String()+" is refused", e != 0, refused)
		equal(t, "Mark behind "+c.String(), v.Mark(), want)
	}
	equal(t, "Mark", v.Mark(), 0)
	marks(1, mk(L("a")), false)
	marks(1, mk(L()), true)
	marks(2, wr(1, L("b")), false)
	marks(3, wr(1, L("b")), false) // the same once more
	marks(3, wr(1, L()), true)
	marks(3, wr(2, L("a")), true)
	marks(3, sh(1), false) // it is its own shadow
	marks(3, sh(2), true)
	marks(4, kp(1), false)
	marks(4, kp(1), true)
	marks(4, kp(2), true)
	marks(5, sh(1), false)
	marks(6, mk(N(1, 2)), false)
	marks(6, mk(B(0)), true)
	marks(7, kp(3), false)
	marks(7, sh(3), true)
	marks(8, tk(3), false)
	marks(9, kp(3), false)
	marks(9, tk(3), true) // 1 and 2 have the count 2 by now
	marks(10, dr(3), false)
	marks(11, dr(3), false) // three pages are dropped by it
	marks(11, dr(3), true)
	marks(11, tk(3), true)
	look(v)
	equal(t, "Mark behind looking", v.Mark(), 11)
	marks(11, un(12), false)
	marks(8, un(8), false)
	marks(8, un(9), false)
	marks(8, settle(), false)
	marks(8, un(7), false)
	marks(9, dr(3), false)
	marks(8, un(8), false)
	equalLists(t, "Counts", v.Counts(), []int{2, 2, 1})
}

// The marks of the last Settle and one below it, behind several Settles.
func TestP11_11TheLowestMark(t *testing.T) {
	v := newVault(t, 9, 2)
	for round := range 5 {
		n, floor := round+1, 2*round
		equal(t, "Undo(floor - 1)", v.Undo(floor-1), false)
		makes(t, v, B(n), n, 0)
		writes(t, v, n, L("a"), 0)
		equal(t, "Undo(floor - 1)", v.Undo(floor-1), false)
		reads(t, v, n, L("a"), 0)
		equal(t, "Undo(floor)", v.Undo(floor), true)
		equal(t, "Count, State, Mark", [3]int{v.Count(n), v.State(n), v.Mark()}, [3]int{0, free, floor})
		makes(t, v, L("b"), n, 0)
		writes(t, v, n, L("c"), 0)
		v.Settle()
		equal(t, "Undo(floor)", v.Undo(floor), false)
		equal(t, "Undo(floor + 1)", v.Undo(floor+1), false)
		equal(t, "Undo(floor + 2)", v.Undo(floor+2), true)
		equal(t, "Undo(floor + 3)", v.Undo(floor+3), false)
		equal(t, "Count, State", [2]int{v.Count(n), v.State(n)}, [2]int{1, held})
		reads(t, v, n, L("c"), 0)
	}
}

// A page that was written, given back, handed out and written again: each mark has
// what stood there then.
func TestP11_11WhatStoodThere(t *testing.T) {
	v := newVault(t, 1, 2)
	makes(t, v, L("a"), 1, 0)
	writes(t, v, 1, L("b"), 0)
	takes(t, v, 1, L("b"), 0)
	makes(t, v, L("c"), 1, 0)
	drops(t, v, 1, 0)
	makes(t, v, L("d"), 1, 0)
	writes(t, v, 1, L("e"), 0)
	for mark := 7; mark >= 0; mark-- {
		equal(t, "Undo", v.Undo(mark), true)
		if want := []string{"", "a", "b", "", "c", "", "d", "e"}[mark]; want == "" {
			reads(t, v, 1, api.Page{}, errPage)
		} else {
			reads(t, v, 1, L(want), 0)
		}
	}
}

func TestP11_12SettleWithEachState(t *testing.T) {
	v := fourStates(t)
	mark := v.Mark()
	v.Settle()
	none := text(api.Page{})
	for range 2 {
		equalLists(t, "states", states(v), []int{held, free, held, free, held, free, held, free})
		equalLists(t, "Counts", v.Counts(), []int{1, 0, 1, 0, 2, 0, 2, 0})
		equal(t, "Held", listed(v.Pages(held)), "1: "+text(L("a"))+"; 3: "+text(V(5))+"; 5: "+text(N(1, 3))+"; 7: "+text(B(3))+"; ")
		equal(t, "Free", listed(v.Pages(free)), "2: "+none+"; 4: "+none+"; 6: "+none+"; 8: "+none+"; ")
		equal(t, "Mark", v.Mark(), mark)
		equal(t, "Undo(Mark - 1)", v.Undo(mark-1), false)
		equal(t, "Undo(0)", v.Undo(0), false)
		equal(t, "Undo(Mark)", v.Undo(mark), true)
		v.Settle()
	}
	makes(t, v, L("x"), 2, 0)
	shadows(t, v, 1, 4, 0)
	shadows(t, v, 7, 6, 0)
	equalLists(t, "states", states(v), []int{pending, fresh, held, fresh, held, fresh, held, free})
	equalLists(t, "Counts", v.Counts(), []int{0, 1, 2, 1, 2, 1, 1, 0})
	equal(t, "Undo", v.Undo(mark), true)
	equalLists(t, "states", states(v), []int{held, free, held, free, held, free, held, free})
	equal(t, "Free", listed(v.Pages(free)), "2: "+none+"; 4: "+none+"; 6: "+none+"; 8: "+none+"; ")
}
