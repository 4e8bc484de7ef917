package merge_test

import (
	"fmt"
	"testing"

	"coppice/api"
	"coppice/draw"
	"coppice/fork"
	"coppice/merge"
)

// P21.4: if ours is as base, by itself, as a clone or as another tree with the same pairs,
// the tree has what theirs has, and there is no conflict, by each rule; if theirs is as
// base, nothing changes.
func TestP21_4AsBase(t *testing.T) {
	t.Parallel()
	r, met := draw.Numbers(741), met{}
	for round := range 24 {
		c := someTrio(t, &r, 1+round%3)
		if c.base == c.ours || c.base == c.theirs {
			continue
		}
		c = c.wider(t, 500)
		base, theirs := toldPairs(pairs(t, c.v, c.base)), toldPairs(pairs(t, c.v, c.theirs))
		clone, e := fork.Clone(c.v, c.base)
		equal(t, "Clone", e, 0)
		again := built(t, c.v, pairs(t, c.v, c.base))
		all := append(c.beside, c.ours, clone, again)
		mark := c.v.Mark()
		for name, x := range map[string]api.Tree{"a clone of base": clone, "base once more": again} {
			for _, rule := range rules() {
				ours := trio{c.v, c.base, x, c.theirs, without(all, x), c.grown}
				came := ours.merges(t, rule)
				equal(t, "no error, no conflict", fmt.Sprint(came.e, len(came.conflicts)), fmt.Sprint(api.OK, 0))
				equal(t, name+" as ours", toldPairs(pairs(t, c.v, came.tree)), theirs)
				met[fmt.Sprint("some differ: ", base != theirs)]++
				c.v.Undo(mark)
				unchanged(t, c.v, func() {
					came := trio{c.v, c.base, c.theirs, x, without(all, c.theirs), c.grown}.merges(t, rule)
					equal(t, name+" as theirs", fmt.Sprint(came.tree, came.e, len(came.conflicts)), fmt.Sprint(c.theirs, api.OK, 0))
				})
			}
		}
		for _, rule := range rules() { // base itself, which stands there once
			came := trio{c.v, c.base, c.base, c.theirs, without(all, c.base), c.grown}.merges(t, rule)
			equal(t, "base itself as ours", toldPairs(pairs(t, c.v, came.tree)), theirs)
			c.v.Undo(mark)
			unchanged(t, c.v, func() {
				x, l, e := merge.Merge(c.v, c.base, c.ours, c.base, rule)
				equal(t, "base itself as theirs", fmt.Sprint(x, len(l), e), fmt.Sprint(c.ours, 0, api.OK))
			})
		}
	}
	met.wants(t, 20, "some differ: true")
}

// without is the trees but one of those that are x.
func without(l []api.Tree, x api.Tree) []api.Tree {
	var some []api.Tree
	for k, y := range l {
		if y == x {
			return append(some, l[k+1:]...)
		}
		some = append(some, y)
	}
	return some
}

// P21.4: with ours and theirs changed about there are the same conflicts, their sides
// changed about; MergeOurs then has the pairs that MergeTheirs has here, and the other way
// round.
func TestP21_4ChangedAbout(t *testing.T) {
	t.Parallel()
	r, met := draw.Numbers(742), met{}
	for round := range 90 {
		c := someTrio(t, &r, 1+round%3).wider(t, 200)
		all := append(c.beside, c.ours)
		about := trio{c.v, c.base, c.theirs, c.ours, without(all, c.theirs), c.grown}
		there, here := c.tells(t), about.tells(t)
		for k := range here {
			x := &here[k]
			x.Ours, x.Theirs = x.Theirs, x.Ours
			x.Has[1], x.Has[2] = x.Has[2], x.Has[1]
		}
		equalConflicts(t, "with the sides changed about", here, there)
		mark := c.v.Mark()
		for _, rule := range rules() {
			came := c.merges(t, rule)
			had := toldPairs(pairs(t, c.v, came.tree))
			c.v.Undo(mark)
			other := about.merges(t, [...]int{mergeFail, byTheirs, byOurs}[rule])
			equal(t, "the error", other.e, came.e)
			equal(t, "the pairs", toldPairs(pairs(t, c.v, other.tree)), had)
			met[fmt.Sprintf("rule %d, error %d, conflicts: %t", rule, came.e, len(there) > 0)]++
			c.v.Undo(mark)
		}
	}
	met.wants(t, 20, "rule 0, error 0, conflicts: false", "rule 0, error 26, conflicts: true",
		"rule 1, error 0, conflicts: false", "rule 1, error 0, conflicts: true", "rule 2, error 0, conflicts: false", "rule 2, error 0, conflicts: true")
}

// P21.4: once more with the tree in the place of ours there is nothing left to be done with
// MergeTheirs, and with each rule where there was no conflict; where there was one,
// MergeOurs tells the same conflicts again, and changes nothing either.
func TestP21_4OnceMore(t *testing.T) {
	t.Parallel()
	r, met := draw.Numbers(743), met{}
	for round := range 72 {
		c := someTrio(t, &r, 1+round%3)
		if round%4 == 0 {
			c = c.untouched(t)
		}
		if c.base == c.ours && len(without(c.beside, c.base)) == len(c.beside) {
			continue // base itself becomes another tree
		}
		mark := c.v.Mark()
		for _, rule := range rules() {
			came := c.merges(t, rule)
			if came.e != 0 {
				c.v.Undo(mark)
				continue
			}
			next := c
			next.ours = came.tree
			for _, again := range rules() {
				if again == rule || len(came.conflicts) == 0 || rule == byTheirs {
					unchanged(t, c.v, func() {
						x := next.merges(t, again)
						equal(t, "Merge once more", fmt.Sprint(x.tree, x.e, x.of), fmt.Sprint(came.tree, api.OK, 0))
						if rule == byTheirs {
							equal(t, "conflicts that are left", len(x.conflicts), 0)
						} else {
							equalConflicts(t, "conflicts that are left", x.conflicts, came.conflicts)
						}
					})
					met[fmt.Sprintf("%d behind %d, conflicts: %t, some done: %t", again, rule, len(came.conflicts) > 0, came.of > 0)]++
				}
			}
			c.v.Undo(mark)
		}
	}
	met.wants(t, 10, "0 behind 2, conflicts: true, some done: true", "1 behind 2, conflicts: true, some done: true", "2 behind 2, conflicts: true, some done: true",
		"0 behind 0, conflicts: false, some done: true", "2 behind 0, conflicts: false, some done: true", "2 behind 1, conflicts: false, some done: true",
		"1 behind 1, conflicts: true, some done: true")
}

// P21.4: at each key the tree has what comes of the key, whatever else lies there: here of
// ours, theirs and base that have the same keys and few values.
func TestP21_4FewValues(t *testing.T) {
	t.Parallel()
	r := draw.Numbers(744)
	for round := range 60 {
		v := newVault(t, 300, 2)
		var l [3][]api.Pair
		for key := range 40 + round {
			for k := range l {
				if n := r.Below(4); n > 0 {
					l[k] = append(l[k], api.Pair{Key: []byte{byte(key)}, Value: []byte{byte(n)}[:n/2]})
				}
			}
		}
		c := trioOf(v, built(t, v, l[0]), built(t, v, l[1]), built(t, v, l[2]), nil)
		mark := v.Mark()
		equal(t, "MergeFail", c.merges(t, mergeFail).e, errMerge)
		for _, rule := range rules()[1:] {
			x := c.merges(t, rule)
			equal(t, "the error", x.e, 0)
			had := family(pairs(t, v, x.tree))
			for _, row := range modelRows(l[0], l[1], l[2]) {
				equal(t, fmt.Sprintf("%q by the rule %d", row.key, rule), had[row.key], row.comes(rule))
			}
			v.Undo(mark)
		}
	}
}
