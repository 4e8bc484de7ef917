package forest_test

import (
	"fmt"
	"testing"

	"coppice/api"
	"coppice/draw"
)

// P24.6: do is called once, and just while All runs; what it answers is the answer.
func TestP24_6Do(t *testing.T) {
	d, f := formatted(t, exampleConfig)
	ok(t, f, call{name: "Plant"})
	for _, want := range []api.Errno{0, errArg, errStale, errDown, errNone, -1, 1, 999, api.Errno(greatest), api.Errno(lowest)} {
		n := 0
		e := f.All(func() api.Errno {
			n++
			return want
		})
		equal(t, "All", e, want)
		equal(t, "calls of do", n, 1)
	}
	equal(t, "All of nil", f.All(nil), errArg)
	kill(t, d, f)
	equal(t, "All of a dead forest", f.All(func() api.Errno { t.Error("do was called"); return 0 }), errDown)
	equal(t, "All of nil, of a dead forest", f.All(nil), errDown)
}

// P24.6: what is undone, and what stays, of two within one, in every way of ending.
func TestP24_6Within(t *testing.T) {
	for mask := range 8 {
		ends := func(n int) api.Errno { return api.Errno(mask >> n & 1 * errEnd) }
		_, f := formatted(t, api.Config{Blocks: 20, Clones: 3, Refs: 9})
		ok(t, f, call{name: "Plant"})
		ok(t, f, puts(1, "0", ""))
		step := func(k string, want bool) {
			_, has, _ := f.Get(1, []byte(k))
			equal(t, fmt.Sprintf("%03b: is %s there", mask, k), has, want)
		}
		inner := func(k string, e api.Errno) {
			equal(t, "the inner All", f.All(func() api.Errno {
				ok(t, f, puts(1, k, ""))
				ok(t, f, call{name: "Plant"})
				return e
			}), e)
			step(k, e == 0)
		}
		e := f.All(func() api.Errno {
			ok(t, f, puts(1, "1", ""))
			inner("2", ends(0))
			ok(t, f, puts(1, "3", ""))
			inner("4", ends(1))
			step("1", true)
			step("3", true)
			return ends(2)
		})
		equal(t, "the outer All", e, ends(2))
		stays := ends(2) == 0
		step("0", true)
		for n, k := range []string{"1", "2", "3", "4"} {
			step(k, stays && (n%2 == 0 || ends(n/2) == 0))
		}
		trees := 1
		for n := range 2 {
			if stays && ends(n) == 0 {
				trees++
			}
		}
		equal(t, "trees", len(f.Roots()), trees)
		equal(t, "the next id", f.Super().Next, trees+1)
		ok(t, f, call{name: "Commit"})
	}
}

// P24.6: Commit within do is ErrArg, however deep, also behind an inner All that has ended,
// one way or the other; behind the outermost one it is OK.
func TestP24_6CommitWithin(t *testing.T) {
	for _, ends := range []api.Errno{0, errStale} {
		d, f := formatted(t, exampleConfig)
		var deeper func(n int) api.Errno
		deeper = func(n int) api.Errno {
			equal(t, "Commit", f.Commit(), errArg)
			if n < 40 {
				equal(t, "All", f.All(func() api.Errno { return deeper(n + 1) }), ends)
			}
			equal(t, "All of nil", f.All(nil), errArg)
			equal(t, "Commit", f.Commit(), errArg)
			return ends
		}
		unwritten(t, d, func() { equal(t, "All", f.All(func() api.Errno { return deeper(0) }), ends) })
		equal(t, "Dead", f.Dead(), false)
		equal(t, "Commit", f.Commit(), 0)
		equal(t, "All of nil", f.All(nil), errArg)
		equal(t, "Commit", f.Commit(), 0)
	}
}

// P24.6 and P24.11: each call within do, one or several, undone: all is as it was ahead of
// it, and the answers within are those outside.
func TestP24_6EachCallWithin(t *testing.T) {
	t.Parallel()
	r, all := draw.Numbers(2451), met{}
	for round := range 12 {
		s := newScene(t, &r, someConfig(&r, []int{8, 20, 60}[round%3]))
		s.steps(60)
		for _, name := range callNames() {
			for range 4 {
				c := s.some(1)
				c.name = name
				if name == "All" {
					c.do, c.ends = []call{s.some(2)}, []api.Errno{0, errBase}[r.Below(2)]
				}
				before := whole(s.f)
				within := call{name: "All", do: []call{c}, ends: errEnd}
				if r.Below(3) == 0 {
					within.do = []call{s.some(2), {name: "All", do: []call{c, s.some(2)}, ends: []api.Errno{0, errEnd}[r.Below(2)]}, c}
				}
				s.ask(within)
				equal(t, "all is as it was", whole(s.f), before)
				_, e := c.on(s.f)
				c.on(s.p)
				equal(t, "all behind "+name, whole(s.f), whole(s.p))
				s.settle(name, e)
				all[fmt.Sprint(name, " ", e == 0)]++
			}
		}
	}
	for _, name := range callNames() {
		all.wants(t, 12, name+" true")
	}
	all.wants(t, 2, "Put false", "Clone false", "Drop false", "Get false", "All false", "Swap false", "Diff false", "Merge false")
}

// settle remembers what lasts, if that was a commit.
func (s *scene) settle(name string, e api.Errno) {
	if name == "Commit" && e == 0 {
		s.last = s.p.now
	}
}

// P24.6: a call within do that is answered with an error undoes nothing but itself.
func TestP24_6AnErrorWithin(t *testing.T) {
	_, f := formatted(t, exampleConfig)
	ok(t, f, call{name: "Plant"})
	do := []call{puts(1, "a", "1"), puts(1, "", "1"), puts(1, "b", string(make([]byte, maxValue))), puts(1, "b", "2"), {name: "Drop", a: 9}, {name: "Commit"}}
	row(t, f, call{name: "All", do: do}, "(Put false error 0; Put false error 7; Put false error 12; Put false error 0; Drop error 9; Commit error 1; ) error 0")
	equal(t, "the family", familyOf(t, f).told(), "1: 61=31 62=32; ")
}

// P24.6: walks that were asked for ahead of and within do go over what there was then,
// within it and behind it.
func TestP24_6Walks(t *testing.T) {
	for _, ends := range []api.Errno{0, errStale} {
		_, f := formatted(t, api.Config{Blocks: 40, Clones: 3, Refs: 9})
		ok(t, f, call{name: "Plant"})
		ok(t, f, puts(1, "a", "1"))
		scan := func(id int) held1 {
			l, e := f.List(id, allKeys)
			equal(t, "List", e, 0)
			walk, e := f.Scan(id, allKeys)
			equal(t, "Scan", e, 0)
			return held1{walk, toldPairs(l)}
		}
		walks := []held1{scan(1)}
		look := func() {
			t.Helper()
			for _, x := range walks {
				equal(t, "a walk", toldWalk(x.walk), x.want)
			}
		}
		e := f.All(func() api.Errno {
			ok(t, f, puts(1, "b", string(make([]byte, 1000))))
			walks = append(walks, scan(1))
			ok(t, f, call{name: "Clone", a: 1})
			walks = append(walks, scan(2))
			look()
			ok(t, f, puts(2, "c", "3"))
			ok(t, f, call{name: "Drop", a: 1})
			look()
			return ends
		})
		equal(t, "All", e, ends)
		look()
		for n := range 30 {
			ok(t, f, puts(f.Roots()[0].Id, fmt.Sprint("k", n), "v"))
		}
		look()
		ok(t, f, call{name: "Commit"})
		look()
	}
}

// P24.6: a great many within one another.
func TestP24_6Deep(t *testing.T) {
	_, f := formatted(t, exampleConfig)
	before := whole(f)
	var deeper func(n int) api.Errno
	deeper = func(n int) api.Errno {
		if n == 3000 {
			ok(t, f, call{name: "Plant"})
			return errStale
		}
		return f.All(func() api.Errno { return deeper(n + 1) })
	}
	equal(t, "All", deeper(0), errStale)
	equal(t, "all is as it was", whole(f), before)
	equal(t, "Commit", f.Commit(), 0)
}
