package merge_test

import (
	"fmt"
	"slices"
	"testing"

	"coppice/api"
	"coppice/cut"
	"coppice/draw"
	"coppice/fork"
	"coppice/grove"
	"coppice/put"
	"coppice/walk"
)

// P21.3: trees of all kinds, with each rule.
func TestP21_3Trios(t *testing.T) {
	t.Parallel()
	r, met := draw.Numbers(721), met{}
	for round := range 250 {
		c := someTrio(t, &r, 1+round%3)
		for _, x := range c.rows(t) {
			met[x.kind()]++
		}
		name, mark := c.alike(), c.v.Mark()
		for _, rule := range rules() {
			came := c.merges(t, rule)
			met[fmt.Sprintf("rule %d, error %d", rule, came.e)]++
			if came.e == 0 && came.of > 0 {
				met["done, "+c.share()]++
				met["done, heights "+c.heights()]++
				met["done, "+name]++
			}
			c.v.Undo(mark)
		}
	}
	met.wants(t, 50, "as it was, as it was", "as it was, added", "as it was, cut", "as it was, changed", "added, as it was", "cut, as it was", "changed, as it was",
		"added, added", "changed, changed", "cut, changed", "changed, cut", "added, added, alike", "changed, changed, alike", "cut, cut, alike",
		"rule 0, error 0", "rule 1, error 0", "rule 2, error 0", "rule 0, error 26",
		"done, some shared", "done, none shared", "done, heights alike", "done, heights unlike", "done, three trees")
	met.wants(t, 3, "done, base is ours", "done, three trees, no base", "done, three trees, no ours", "done, three trees, no theirs", "done, base is ours, no theirs")
}

// P21.3: two or three of them are one and the same tree, in each way, which stands there
// but once; all is as if each had stood there for itself.
func TestP21_3OneAndTheSame(t *testing.T) {
	t.Parallel()
	r, met := draw.Numbers(722), met{}
	for round := range 96 {
		c, way := siblings(t, &r, 1+round%3, 1+r.Below(12)), round%ways
		if round%5 == 0 {
			c = strangers(t, &r, 1+round%3)
		}
		c = c.joined(t, way)
		led := grove.Led(c.v, append(c.beside, c.ours)...)
		for n, times := range led {
			equal(t, "the count", c.v.Count(n), times)
		}
		mark := c.v.Mark()
		for _, rule := range rules() {
			v := newVault(t, 1200, 2)
			own := trioOf(v, built(t, v, pairs(t, c.v, c.base)), built(t, v, pairs(t, c.v, c.ours)), built(t, v, pairs(t, c.v, c.theirs)), nil)
			came, alone := c.merges(t, rule), own.merges(t, rule)
			met[fmt.Sprintf("way %d, error %d, some done: %t", way, came.e, came.of > 0)]++
			equal(t, "the error, each for itself", alone.e, came.e)
			equalConflicts(t, "the conflicts, each for itself", alone.conflicts, came.conflicts)
			equal(t, "the pairs, each for itself", toldPairs(pairs(t, v, alone.tree)), toldPairs(pairs(t, c.v, came.tree)))
			c.v.Undo(mark)
		}
	}
	for _, way := range []int{0, 4, 5, 6} {
		met.wants(t, 10, fmt.Sprintf("way %d, error 0, some done: true", way))
	}
	for _, way := range []int{1, 2, 3, 7} {
		met.wants(t, 10, fmt.Sprintf("way %d, error 0, some done: false", way))
	}
}

// P21.3: a key at which theirs has what base has is not touched: where there is no other
// one, not a page is written, taken or handed out, and none need be free; nor is one where
// both sides have changed all alike, or with MergeOurs where each key is a conflict.
func TestP21_3NothingToDo(t *testing.T) {
	t.Parallel()
	r, met := draw.Numbers(723), met{}
	for round := range 60 {
		c := someTrio(t, &r, 1+round%3).wider(t, 400)
		switch r.Below(3) {
		case 0:
			x, e := fork.Clone(c.v, c.base)
			equal(t, "Clone", e, 0)
			c.theirs, c.beside = x, append(c.beside, x)
		case 1:
			c.theirs = built(t, c.v, pairs(t, c.v, c.base))
			c.beside = append(c.beside, c.theirs)
		case 2:
			c.theirs = built(t, c.v, pairs(t, c.v, c.ours))
			c.beside = append(c.beside, c.theirs)
		}
		s := grove.StoreFrom(c.v)
		s.Leave(&r, 0)
		s.Refs = max(2, slices.Max(s.Counts))
		c = c.among(t, s)
		for _, rule := range rules() {
			unchanged(t, c.v, func() {
				came := c.merges(t, rule)
				equal(t, "Merge", fmt.Sprint(came.tree, len(came.conflicts), came.e), fmt.Sprint(c.ours, 0, api.OK))
			})
			met["differ"] += len(c.rows(t)) - c.base.Items
		}
	}
	met.wants(t, 100, "differ")
	v := newVault(t, 6, 2)
	c := trioOf(v, built(t, v, words("a1 b1")), built(t, v, words("a2 c2")), built(t, v, words("a3 b3 c3")), nil)
	s := grove.StoreFrom(v)
	s.Leave(&r, 0)
	c = c.among(t, s)
	unchanged(t, c.v, func() { equal(t, "MergeOurs of conflicts alone", c.merges(t, byOurs).tree, c.ours) })
	equal(t, "MergeTheirs of them", c.merges(t, byTheirs).e, 0) // all in one leaf that is its own
	s.Lasts[c.ours.Root-1] = 1
	c = c.among(t, s)
	equal(t, "MergeTheirs of them, ours being Held", c.merges(t, byTheirs).e, errSpace)
}

// P21.2: a rule that is none is ErrArg, whatever else is wrong.
func TestP21_2Rule(t *testing.T) {
	t.Parallel()
	r, conflicts := draw.Numbers(711), 0
	for round := range 24 {
		c := someTrio(t, &r, 1+round%3)
		if round%2 == 0 {
			s := grove.StoreFrom(c.v)
			s.Leave(&r, 0)
			c = c.among(t, s)
		}
		conflicts += len(c.tells(t))
		for _, rule := range []int{-1, 3, 4, -3, 26, 256, 257, 1 << 16, 1<<32 + 1, -1 << 32, lowest, greatest, lowest + 2} {
			unchanged(t, c.v, func() { equal(t, "Merge", c.merges(t, rule).e, errArg) })
		}
	}
	equal(t, "many conflicts", conflicts > 50, true)
}

// where is at which put or cut a Merge ended.
func (c came) where() string {
	switch {
	case c.e == 0 || c.e == errMerge:
		return ""
	case c.done == 0:
		return " at the first"
	case c.done == c.of-1:
		return " at the last"
	}
	return " in the middle"
}

// withEachRule merges a trio by each rule, and undoes it; was it done by any?
func (c trio) withEachRule(t *testing.T, met met) bool {
	t.Helper()
	mark, isDone := c.v.Mark(), false
	for _, rule := range rules() {
		came := c.merges(t, rule)
		met[fmt.Sprintf("rule %d, error %d%s", rule, came.e, came.where())]++
		if came.e != 0 {
			c.answers(t, rule, came)
		}
		isDone = isDone || came.e == 0 && came.of > 0
		c.v.Undo(mark)
	}
	return isDone
}

// untouched is the trio with a clone of base as ours, so that there is no conflict.
func (c trio) untouched(t *testing.T) trio {
	t.Helper()
	x, e := fork.Clone(c.v, c.base)
	equal(t, "Clone", e, 0)
	c.ours, c.beside = x, append(c.beside, c.ours)
	return c
}

// P21.2: ErrSpace at the first put or cut, in the middle and at the last one, where ever
// more pages are free, until it is done; all of it is undone.
func TestP21_2NoRoom(t *testing.T) {
	t.Parallel()
	r, met := draw.Numbers(712), met{}
	for round := range 45 {
		c := someTrio(t, &r, 1+round%3)
		if round%3 == 0 {
			c = siblings(t, &r, 1+r.Below(3), 9).untouched(t)
		}
		s := grove.StoreFrom(c.v)
		for left := r.Below(2); left < 30; left += 1 + left/6 {
			few := s.Copy()
			few.Leave(&r, left)
			if c.among(t, few).withEachRule(t, met) {
				break
			}
		}
	}
	for _, rule := range rules() {
		met.wants(t, 5, fmt.Sprintf("rule %d, error 12 at the first", rule), fmt.Sprintf("rule %d, error 12 in the middle", rule),
			fmt.Sprintf("rule %d, error 12 at the last", rule), fmt.Sprintf("rule %d, error 0", rule))
	}
	met.wants(t, 5, "rule 0, error 26")
}

// beneath is the pages to which those lead that ours shares on the way to a key: where the
// count of one of these is as great as it may be, the way cannot be shadowed.
func (c trio) beneath(t *testing.T, key string) []int {
	t.Helper()
	way, e := walk.Path(c.v, c.ours, []byte(key))
	equal(t, "Path", e, 0)
	var l []int
	for _, n := range way {
		if c.v.Count(n) > 1 {
			p, e := c.v.Read(n)
			equal(t, "Read", e, 0)
			l = append(l, grove.LeadsTo(p)...)
		}
	}
	return l
}

// P21.2: ErrRefs at the first put or cut, in the middle and at the last one, where the
// count of one page, or of several ones, is as great as it may be; all of it is undone.
func TestP21_2NoCount(t *testing.T) {
	t.Parallel()
	r, met := draw.Numbers(713), met{}
	for round := range 180 {
		c := siblings(t, &r, 2+round%2, 6+r.Below(12))
		if round%5 == 0 {
			c = someTrio(t, &r, 1+r.Below(3))
		} else if c.ours.Root == 0 || c.v.Count(c.ours.Root) > 1 { // all fails at the root
			continue
		}
		s := grove.StoreFrom(c.v)
		s.Refs = max(2, slices.Max(s.Counts)+min(2, r.Below(4)))
		c.among(t, s).withEachRule(t, met)
		rows := taken(c.rows(t), byTheirs)
		for k := range rows {
			if l := c.beneath(t, rows[k].key); len(l) > 0 {
				high := s.Copy()
				high.Counts[l[r.Below(len(l))]-1] = s.Refs
				c.among(t, high).withEachRule(t, met)
			}
		}
	}
	for _, rule := range rules()[1:] {
		met.wants(t, 5, fmt.Sprintf("rule %d, error 13 at the first", rule), fmt.Sprintf("rule %d, error 13 in the middle", rule),
			fmt.Sprintf("rule %d, error 13 at the last", rule), fmt.Sprintf("rule %d, error 0", rule))
	}
	met.wants(t, 5, "rule 0, error 13 at the first")
}

// P21.2: which error stands first, where several are so: ErrArg, ErrMerge, and then what
// the first put or cut has that has one.
func TestP21_2WhichError(t *testing.T) {
	v := newVault(t, 12, 2)
	base := built(t, v, words("a1 b1"))
	ours := built(t, v, words("a2 b1 m1"))
	theirs := built(t, v, words("a3 b2"))
	value3 := append(words("a1 b1 c1"), api.Pair{Key: []byte("l"), Value: value(3 * chunk)}, api.Pair{Key: []byte("m")})
	long := built(t, v, value3)
	c := trioOf(v, base, ours, theirs, nil)
	full := func(c trio, left, refs int) trio {
		r, s := draw.Numbers(9), grove.StoreFrom(v)
		s.Leave(&r, left)
		for _, x := range []api.Tree{c.base, c.ours, c.theirs} {
			if x.Root != 0 {
				s.Counts[x.Root-1] = refs
			}
		}
		return c.among(t, s)
	}
	for _, x := range []struct {
		c          trio
		rule       int
		left, refs int
		want       api.Errno
	}{
		{c, 3, 0, 2, errArg}, {c, mergeFail, 0, 2, errMerge}, {c, byOurs, 0, 2, errSpace}, {c, byTheirs, 0, 2, errSpace},
		{c, -1, 9, 1, errArg}, {c, mergeFail, 1, 1, errMerge}, {c, byOurs, 0, 1, 0}, {c, byTheirs, 0, 1, 0},
		{c, byOurs, 1, 2, 0}, {c, byTheirs, 1, 2, 0}, // the root is shadowed once
		{trio{v, base, base, long, []api.Tree{long}, nil}, mergeFail, 4, 1, 0},
		{trio{v, base, base, long, []api.Tree{long}, nil}, byOurs, 4, 2, 0}, // the leaf's shadow, and three pages
		{trio{v, base, base, long, []api.Tree{long}, nil}, byOurs, 3, 2, errSpace},
		{trio{v, base, base, long, []api.Tree{long}, nil}, byOurs, 2, 1, errSpace},
		{trio{v, base, base, long, []api.Tree{long}, nil}, byOurs, 0, 1, errSpace}, // c is put in, l has no room
		{trio{v, empty, base, long, []api.Tree{long}, nil}, mergeFail, 4, 1, 0},
		{trio{v, long, long, base, []api.Tree{base}, nil}, byOurs, 0, 1, 0}, // cuts in its own leaf alone
		{trio{v, long, long, base, []api.Tree{base}, nil}, byOurs, 0, 2, errSpace},
	} {
		n := full(x.c, x.left, x.refs)
		if x.refs == 2 && x.c.base == x.c.ours && x.want == 0 {
			n.beside = append(n.beside, x.c.base)
		}
		came := n.merges(t, x.rule)
		equal(t, fmt.Sprintf("Merge(%v, %v, %v, %d), %d free", x.c.base, x.c.ours, x.c.theirs, x.rule, x.left), came.e, x.want)
	}
}

// P21.2: of ErrSpace and ErrRefs that one is told which the first put or cut has that has
// one. Of ours the leaf from f on cannot be shadowed, since h's value is led to as often as
// can be; all else is its own.
func TestP21_2TheFirstOne(t *testing.T) {
	short, long := []byte("2"), value(2*chunk)
	pair := func(key string, value []byte) api.Pair { return api.Pair{Key: []byte(key), Value: value} }
	for _, c := range []struct {
		theirs []api.Pair // what it has put in; of no value: cut out
		free   int
		want   api.Errno
		done   int
	}{
		{[]api.Pair{pair("b", long), pair("z", short)}, 1, errSpace, 0},
		{[]api.Pair{pair("b", long), pair("z", short)}, 2, errSpace, 1},
		{[]api.Pair{pair("b", long), pair("z", short)}, 3, errRefs, 1},
		{[]api.Pair{pair("b", short), pair("z", long)}, 1, errSpace, 1},
		{[]api.Pair{pair("b", short), pair("z", long)}, 3, errRefs, 1},
		{[]api.Pair{pair("b", short), pair("y", short), pair("z", long)}, 1, errRefs, 1},
		{[]api.Pair{pair("b", short), pair("y", short), pair("z", long)}, 0, errSpace, 1},
		{[]api.Pair{pair("b", nil), pair("c", long), pair("g", nil)}, 1, errSpace, 1},
		{[]api.Pair{pair("b", nil), pair("c", long), pair("g", nil)}, 3, errRefs, 2},
		{[]api.Pair{pair("b", long)}, 2, 0, 1},
	} {
		v := newVault(t, 40, 4)
		l := slices.Insert(words("a1 b1 c1 d1 e1 f1 g1 i1"), 7, pair("h", value(chunk)))
		ours, theirs := built(t, v, l), built(t, v, l)
		for _, x := range c.theirs {
			next, e := modelStep(v, theirs, string(x.Key), has{x.Value != nil, string(x.Value)})
			equal(t, "making theirs", e, 0)
			theirs = next
		}
		s, r := grove.StoreFrom(v), draw.Numbers(3)
		second := s.On[ours.Root-1].Items[1].Child
		s.Counts[second-1], s.Counts[s.On[second-1].Items[2].Child-1] = 2, 4
		s.Leave(&r, c.free)
		x := trio{vaultOf(t, s), ours, ours, theirs, []api.Tree{theirs}, nil}
		came := x.merges(t, mergeFail)
		equal(t, fmt.Sprintf("Merge of %q, %d free", c.theirs, c.free), fmt.Sprint(came.e, came.done), fmt.Sprint(c.want, c.done))
	}
}

// P21.3: a row of merges, in which each side takes what the other one has done, one behind
// the other: in the end both have the same.
func TestP21_3ThereAndBack(t *testing.T) {
	t.Parallel()
	r, done := draw.Numbers(724), 0
	for round := range 40 {
		c := siblings(t, &r, 1+round%3, 4)
		care := &tending{r: &r, v: c.v, g: c.grown}
		base, sides := c.base, [2]api.Tree{c.ours, c.theirs}
		for step := range 6 {
			k := step % 2
			x := trio{c.v, base, sides[k], sides[1-k], []api.Tree{base, sides[1-k]}, c.grown}
			came := x.merges(t, []int{byOurs, byTheirs}[k])
			equal(t, "Merge", came.e, 0)
			sides[k] = came.tree
			done += came.of
			sides[1-k] = care.tended(t, sides[1-k])
			if r.Below(2) == 0 {
				c.v.Settle()
			}
		}
		stand(t, c.v, base, sides[0], sides[1])
	}
	equal(t, "much was done", done > 100, true)
}

// P21.3: the pages, their numbers and all counts are what puts and cuts by rising keys make
// of them: here by hand.
func TestP21_3ByHand(t *testing.T) {
	v := newVault(t, 30, 9)
	base := built(t, v, words("a1 b1 c1 d1 e1 f1 g1 h1 i1"))
	ours, e := fork.Clone(v, base)
	equal(t, "Clone", e, 0)
	ours, _, e = put.Put(v, ours, []byte("a"), []byte("2"))
	equal(t, "Put", e, 0)
	theirs, e := fork.Clone(v, base)
	equal(t, "Clone", e, 0)
	for _, key := range []string{"h", "i", "c"} {
		theirs, _, e = cut.Cut(v, theirs, []byte(key))
		equal(t, "Cut", e, 0)
	}
	theirs, _, e = put.Put(v, theirs, []byte("f"), value(chunk+1))
	equal(t, "Put", e, 0)
	c, s := trioOf(v, base, ours, theirs, nil), grove.StoreFrom(v)
	came := c.merges(t, mergeFail)
	equal(t, "Merge", fmt.Sprint(came.e, came.of, toldPairs(pairs(t, v, came.tree)[:2])), fmt.Sprint(api.OK, 4, toldPairs(words("a2 b1"))))
	w := vaultOf(t, s)
	x, _, e := cut.Cut(w, ours, []byte("c"))
	equal(t, "Cut", e, 0)
	x, _, e = put.Put(w, x, []byte("f"), value(chunk+1))
	equal(t, "Put", e, 0)
	x, _, e = cut.Cut(w, x, []byte("h"))
	equal(t, "Cut", e, 0)
	x, _, e = cut.Cut(w, x, []byte("i"))
	equal(t, "Cut", e, 0)
	equal(t, "the tree", came.tree, x)
	equal(t, "a page that is another one", grove.StoreFrom(w).Differs(v), 0)
}
