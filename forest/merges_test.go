package forest_test

import (
	"fmt"
	"testing"

	"coppice/api"
	"coppice/draw"
)

// P24.9: Diff and Merge of three trees in every way in which their ids may be the same
// ones, under each rule, with room and without.
func TestP24_9EveryWay(t *testing.T) {
	t.Parallel()
	r, all := draw.Numbers(2481), met{}
	for round := range 8 {
		s := newScene(t, &r, api.Config{Blocks: 60, Clones: 16, Refs: []int{2, 9}[round/2%2]})
		s.three()
		if round%4 == 3 {
			s.ask(call{name: "Commit"})
		}
		if round%2 == 1 {
			s.crowd(s.r.Below(4))
		}
		for a := 1; a <= 3; a++ {
			for b := 1; b <= 3; b++ {
				for range 3 {
					s.ask(call{name: "Diff", a: a, b: b, r: s.ranged()})
				}
				for c := 1; c <= 3; c++ {
					for rule := range 3 {
						s.merged(call{name: "Merge", a: a, b: b, c: c, rule: rule}, all)
					}
				}
			}
		}
		all.add(s.met)
	}
	all.wants(t, 1, "0 with 0 conflicts", "0 with 3 conflicts", "26 with 3 conflicts", "12 with 0 conflicts", "13 with 0 conflicts", "Diff 0")
}

// three plants three trees, two of which have come of the first one.
func (s *scene) three() {
	s.ask(call{name: "Plant"})
	for k := range s.keys {
		s.ask(call{name: "Put", a: 1, key: s.keys[k], value: s.r.Bytes(s.r.Below(3))})
	}
	if s.r.Below(2) == 0 {
		s.ask(call{name: "Put", a: 1, key: []byte("long"), value: s.r.Bytes(700)})
	}
	for id := 2; id <= 3; id++ {
		equal(s.t, "Clone", s.ask(call{name: "Clone", a: 1}), 0)
		s.ask(call{name: "Put", a: id, key: s.keys[id], value: []byte("x")})
		for range s.r.Below(12) {
			c := call{name: "Put", a: id, key: s.keys[s.r.Below(16)], value: s.r.Bytes(s.r.Below(3))}
			if s.r.Below(3) == 0 {
				c.name = "Delete"
			}
			s.ask(c)
		}
	}
}

// crowd leaves so many pages free.
func (s *scene) crowd(left int) {
	s.ask(call{name: "Plant"})
	id := s.p.now.coming.Next - 1
	for n := 0; s.p.Tally(free) > left && n < 8; n++ {
		pages := min(8, s.p.Tally(free)-left)
		if n == 0 {
			pages = max(1, min(8, s.p.Tally(free)-left-1))
		}
		s.ask(puts(id, fmt.Sprint("f", n), string(make([]byte, chunk*pages))))
	}
}

// merged asks a merge within an All, which is undone, and what has come of it there.
func (s *scene) merged(c call, all met) {
	s.t.Helper()
	was := s.p.now
	l, e := s.p.Merge(c.a, c.b, c.c, c.rule)
	s.p.now = was
	all[fmt.Sprint(int(e), " with ", min(3, len(l)), " conflicts")]++
	do := []call{c, {name: "Check"}}
	for id := 1; id <= 3; id++ {
		do = append(do, call{name: "List", a: id, r: allKeys}, call{name: "Reach", a: id})
	}
	s.ask(call{name: "All", do: do, ends: errStale})
	if s.r.Below(9) == 0 {
		s.ask(call{name: "All", do: []call{c, {name: "All", do: []call{c}, ends: errEnd}, c}, ends: errStale})
	}
}

// P24.9: with ErrMerge the conflicts are told beside it, and nothing has changed; with the
// other rules they are told too.
func TestP24_9Conflicts(t *testing.T) {
	for rule, want := range []string{"a=1 b=2", "a=1 b=2 d=4", "a=5 d=4"} {
		_, f := formatted(t, api.Config{Blocks: 20, Clones: 4, Refs: 9})
		ok(t, f, call{name: "Plant"})
		ok(t, f, puts(1, "b", "0"))
		ok(t, f, call{name: "Clone", a: 1})
		ok(t, f, call{name: "Clone", a: 1})
		for _, c := range []call{puts(2, "a", "1"), puts(2, "b", "2"), puts(3, "a", "5"), {name: "Delete", a: 3, key: []byte("b")}, puts(3, "d", "4")} {
			ok(t, f, c)
		}
		before := whole(f)
		l, e := f.Merge(1, 2, 3, rule)
		equal(t, "Merge", e, []api.Errno{errMerge, 0, 0}[rule])
		equal(t, "conflicts", toldConflicts(l), " 61  31 35 [false true true] 62 30 32  [true true false]")
		equal(t, "all is as it was", whole(f) == before, rule == mergeFail)
		text := ""
		for _, x := range listedAll(t, f, 2) {
			text += fmt.Sprintf(" %s=%s", x.Key, x.Value)
		}
		equal(t, "ours", text, " "+want)
		equal(t, "base and theirs", fmt.Sprint(len(listedAll(t, f, 1)), len(listedAll(t, f, 3))), "1 2")
	}
}

func listedAll(t *testing.T, f called, id int) []api.Pair {
	t.Helper()
	l, e := f.List(id, allKeys)
	equal(t, "List", e, 0)
	return l
}
