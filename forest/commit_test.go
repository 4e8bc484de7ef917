package forest_test

import (
	"fmt"
	"testing"

	"coppice/api"
	"coppice/draw"
)

// P24.7: each commit is of one generation more; what is opened behind it is what was there.
func TestP24_7Generations(t *testing.T) {
	r := draw.Numbers(2471)
	s := newScene(t, &r, api.Config{Blocks: 60, Clones: 4, Refs: 9})
	for gen := 1; gen < 30; gen++ {
		equal(t, "Super().Gen", s.f.Super().Gen, gen)
		for range r.Below(5) {
			c := s.some(0)
			for c.name == "Commit" {
				c = s.some(0)
			}
			s.ask(c)
		}
		was := told(s.f.Super())
		equal(t, "Commit", s.ask(call{name: "Commit"}), 0)
		f := opened(t, s.d)
		equal(t, "what is opened", whole(f), whole(s.f))
		equal(t, "Super().Gen", f.Super().Gen, gen+1)
		now := f.Super()
		now.Gen--
		equal(t, "what was committed", told(now), was)
	}
}

// P24.7 and P24.8: the power fails at each act of a commit: ErrDown, and the forest is dead
// from then on, also when the power is back; what there is it tells as it did.
func TestP24_7EachAct(t *testing.T) {
	t.Parallel()
	for n := 0; ; n++ {
		r := draw.Numbers(2472)
		s := newScene(t, &r, api.Config{Blocks: 60, Clones: 16, Refs: 9})
		s.steps(20)
		equal(t, "Plant", s.ask(call{name: "Plant"}), 0)
		equal(t, "Put", s.ask(puts(s.p.now.coming.Next-1, "a", string(make([]byte, 2000)))), 0)
		if n == s.acts() {
			equal(t, "many acts", n > 6, true)
			return
		}
		before := state(s.f)
		s.d.Arm(n)
		s.p.d.Arm(n)
		equal(t, "not dead yet", s.f.Dead(), false)
		equal(t, "all is there", whole(s.f), whole(s.p))
		equal(t, "Commit", s.ask(call{name: "Commit"}), errDown)
		for _, turn := range []func(){func() {}, func() { s.d.On(nil) }, func() { s.d.Off() }, func() { s.d.On([]bool{true}) }} {
			turn()
			unwritten(t, s.d, s.isDead)
			equal(t, "what it tells", state(s.f), "true"+before[len("false"):])
		}
	}
}

// P24.7: without power a forest is not dead until it commits: all else goes on as it would.
func TestP24_7OffIsNotSeen(t *testing.T) {
	t.Parallel()
	r, all := draw.Numbers(2473), met{}
	for range 20 {
		s := newScene(t, &r, someConfig(&r, 30))
		s.steps(20)
		s.d.Off()
		s.p.d.Off()
		for range 30 {
			c := s.some(0)
			for c.name == "Commit" {
				c = s.some(0)
			}
			s.ask(c)
		}
		equal(t, "Dead", s.f.Dead(), false)
		equal(t, "Commit", s.ask(call{name: "Commit"}), errDown)
		s.isDead()
		all.add(s.met)
	}
	all.wants(t, 5, "Put 0", "Get 0", "Clone 0", "All 0", "Merge 0", "Diff 0", "Check 0", "Drop 0")
}

// From Open on a forest reads nothing from its disk any more.
func TestP24_1NothingIsReadBehindOpen(t *testing.T) {
	r := draw.Numbers(2474)
	s := newScene(t, &r, api.Config{Blocks: 60, Clones: 8, Refs: 9})
	s.steps(60)
	s.ask(call{name: "Commit"})
	f := opened(t, s.d)
	for at := range s.d.Blocks() {
		written(t, s.d, at, anyBytes(&r))
	}
	equal(t, "Sync", s.d.Sync(), 0)
	equal(t, "all is there", whole(f), whole(s.p))
	for range 60 {
		c := s.some(0)
		if c.name == "Commit" || c.name == "All" {
			continue
		}
		want, _ := c.on(s.p)
		got, _ := c.on(f)
		equal(t, c.name, got, want)
	}
	equal(t, "all is there", whole(f), whole(s.p))
}

// P24.7: a commit of nothing new is one all the same.
func TestP24_7NothingNew(t *testing.T) {
	d, f := formatted(t, exampleConfig)
	for gen := 1; gen < 6; gen++ {
		w, n := d.Acts()
		ok(t, f, call{name: "Commit"})
		w2, n2 := d.Acts()
		equal(t, "writes", w2-w, 3)
		equal(t, "syncs", n2-n, 3)
		equal(t, "Super", told(f.Super()), told(api.Super{Gen: gen + 1, Config: exampleConfig, Next: 1}))
	}
}

// P24.8: the roots by rising ids, the states, the counts, against what was done.
func TestP24_8WhatThereIs(t *testing.T) {
	d, f := formatted(t, api.Config{Blocks: 20, Clones: 5, Refs: 9})
	tallies := func(want ...int) {
		t.Helper()
		for k, n := range want {
			equal(t, fmt.Sprint("Tally of ", k), f.Tally(k), n)
		}
	}
	tallies(0, 16, 0, 0, 0, 0)
	ok(t, f, call{name: "Plant"})
	ok(t, f, puts(1, "a", string(make([]byte, 500))))
	ok(t, f, call{name: "Clone", a: 1})
	tallies(0, 13, 0, 3, 0, 0)
	equalLists(t, "Counts", f.Counts()[:4], []int{1, 1, 2, 0})
	ok(t, f, call{name: "Commit"})
	tallies(0, 13, 0, 0, 3, 0)
	ok(t, f, puts(1, "b", "1"))
	tallies(0, 12, 0, 1, 3, 0)
	equalLists(t, "Counts", f.Counts()[:5], []int{1, 2, 1, 1, 0})
	ok(t, f, call{name: "Drop", a: 2})
	tallies(0, 12, 1, 1, 2, 0)
	equalLists(t, "Counts", f.Counts()[:5], []int{1, 1, 0, 1, 0})
	equalLists(t, "Roots", f.Roots(), []api.Root{{Id: 1, Tree: tree(4, 1, 2)}})
	f = opened(t, d)
	tallies(0, 13, 0, 0, 3, 0)
	equalLists(t, "Counts", f.Counts()[:5], []int{1, 1, 2, 0, 0})
	equalLists(t, "Roots", f.Roots(), []api.Root{{Id: 1, Tree: tree(3, 1, 1)}, {Id: 2, Tree: tree(3, 1, 1)}})
}

// P24.10: Reach and Check of trees that share pages.
func TestP24_10ReachAndCheck(t *testing.T) {
	_, f := formatted(t, api.Config{Blocks: 30, Clones: 5, Refs: 9})
	reach := func(id int, want ...int) {
		t.Helper()
		l, e := f.Reach(id)
		equal(t, "Reach", e, 0)
		equalLists(t, "Reach", l, want)
	}
	check := func(want api.Report) {
		t.Helper()
		x, e := f.Check()
		equal(t, "Check", e, 0)
		equal(t, "Check", fmt.Sprint(x), fmt.Sprint(want))
	}
	check(api.Report{})
	ok(t, f, call{name: "Plant"})
	reach(1)
	check(api.Report{Trees: 1})
	for _, k := range "abcdefghi" {
		ok(t, f, puts(1, string(k), "v"))
	}
	reach(1, 1, 2, 3)
	ok(t, f, puts(1, "a", string(make([]byte, 500))))
	reach(1, 1, 2, 3, 4, 5)
	ok(t, f, call{name: "Clone", a: 1})
	reach(2, 1, 2, 3, 4, 5)
	check(api.Report{Trees: 2, Pages: 5, Leaves: 2, Index: 1, Blobs: 2, Items: 18, Bytes: 1016})
	ok(t, f, puts(2, "i", "w"))
	reach(1, 1, 2, 3, 4, 5)
	reach(2, 1, 4, 5, 6, 7)
	check(api.Report{Trees: 2, Pages: 7, Leaves: 3, Index: 2, Blobs: 2, Items: 18, Bytes: 1016})
	ok(t, f, call{name: "Drop", a: 1})
	check(api.Report{Trees: 1, Pages: 5, Leaves: 2, Index: 1, Blobs: 2, Items: 9, Bytes: 508})
	reach(2, 1, 4, 5, 6, 7)
}

// Two forests over disks of
// their own know nothing of one another.
func TestTwoForests(t *testing.T) {
	r := draw.Numbers(2475)
	var l []*scene
	for range 3 {
		l = append(l, newScene(t, &r, someConfig(&r, 20)))
	}
	for range 150 {
		s := l[r.Below(len(l))]
		s.ask(s.some(0))
	}
	kill(t, l[0].d, l[0].f)
	for _, s := range l[1:] {
		equal(t, "Dead", s.f.Dead(), false)
		s.steps(20)
	}
}
