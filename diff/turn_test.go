package diff_test

import (
	"fmt"
	"slices"
	"testing"

	"coppice/api"
	"coppice/diff"
	"coppice/draw"
)

// someChanges is n changes of any kind, in no order, with all that may stand in them.
func someChanges(r *draw.Numbers, n int) []api.Change {
	kinds := []int{lowest, -1, 0, added, removed, changed, added, removed, changed, 4, 7, greatest}
	var l []api.Change
	for range n {
		l = append(l, api.Change{Kind: kinds[r.Below(len(kinds))], Key: r.Bytes(r.Below(30)), Old: r.Bytes(r.Below(5)), New: r.Bytes(r.Below(50))})
	}
	return l
}

// P20.4: of none, of each kind, of another one, and of Turn.
func TestP20_4Turn(t *testing.T) {
	for _, none := range [][]api.Change{nil, {}} {
		equal(t, "Turn of none", len(diff.Turn(none)), 0)
	}
	for kind, want := range map[int]int{added: removed, removed: added, changed: changed, 0: 0, -1: -1, -2: -2, 4: 4, 7: 7, lowest: lowest, greatest: greatest} {
		for _, c := range []api.Change{change(kind, "k", "old", "new"), change(kind, "k", "old", ""), change(kind, "", "", "new"), change(kind, "", "", "")} {
			got := diff.Turn([]api.Change{c})
			equalChanges(t, fmt.Sprintf("Turn of the kind %d", kind), got, []api.Change{{Kind: want, Key: c.Key, Old: c.New, New: c.Old}})
			equalChanges(t, "Turn of that", diff.Turn(got), []api.Change{c})
		}
	}
}

// P20.4 and P20.5: rows of changes are turned about, the last one first; turned twice they
// are what they were.
func TestP20_4Rows(t *testing.T) {
	r := draw.Numbers(631)
	for round := range 300 {
		l := someChanges(&r, round%20)
		was := copied(l)
		turned := diff.Turn(l)
		equalChanges(t, "Turn", turned, modelTurn(l))
		equalChanges(t, "Turn of Turn", diff.Turn(turned), l)
		equalChanges(t, "what was handed in", l, was)
	}
}

// P20.5: what differs from b to a has the same keys, each turned about.
func TestP20_5TheOtherWayRound(t *testing.T) {
	t.Parallel()
	r, some := draw.Numbers(632), 0
	for round := range 300 {
		c := someCouple(t, &r, 1+round%3)
		l, other := list(t, c.v, c.a, c.b, allKeys), list(t, c.v, c.b, c.a, allKeys)
		back := diff.Turn(other)
		slices.Reverse(back)
		equalChanges(t, "what differs from b to a, each turned about", back, l)
		equalLists(t, "Read of b and a", read(t, c.v, c.b, c.a), read(t, c.v, c.a, c.b))
		some += len(l)
	}
	equal(t, "some differ", some > 1000, true)
}
