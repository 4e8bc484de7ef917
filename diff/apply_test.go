package diff_test

import (
	"bytes"
	"fmt"
	"maps"
	"slices"
	"testing"

	"coppice/api"
	"coppice/diff"
	"coppice/draw"
	"coppice/fork"
	"coppice/grove"
	"coppice/put"
	"coppice/vault"
)

// applies is an Apply that is held against the chapter; others are trees that stand together
// with x.
func applies(t *testing.T, v *vault.Vault, x api.Tree, l []api.Change, others ...api.Tree) came {
	t.Helper()
	what := fmt.Sprintf("Apply of %d changes to %v", len(l), x)
	before, mark, beside := grove.StoreFrom(v), v.Mark(), seen(t, v, others)
	had := pairs(t, v, x)
	want := modelApply(t, before, x, l)
	got, e := diff.Apply(v, x, l)
	equal(t, what, fmt.Sprint(got, e), fmt.Sprint(want.tree, want.e))
	equal(t, what+": a page that is not as puts and cuts make it", want.then.Differs(v), 0)
	equal(t, what+": the other trees", seen(t, v, others), beside)
	if e != 0 {
		equal(t, what+": its pairs behind an error", toldPairs(pairs(t, v, x)), toldPairs(had))
		equal(t, "Mark", v.Mark(), mark)
		equal(t, "Undo(Mark + 1)", v.Undo(mark+1), false)
		equal(t, "Undo(Mark)", v.Undo(mark), true)
		return want
	}
	stand(t, v, append([]api.Tree{got}, others...)...)
	equal(t, "Mark is not below what it was", v.Mark() >= mark, true)
	equal(t, "Undo", v.Undo(mark), true)
	equal(t, what+": a page that is not as it was, behind Undo", before.Differs(v), 0)
	again, e := diff.Apply(v, x, l)
	equal(t, what+" once more", fmt.Sprint(again, e), fmt.Sprint(got, api.OK))
	equal(t, what+" once more: a page that is another one", want.then.Differs(v), 0)
	return want
}

// appliesNot is an Apply that must answer this error, and change nothing.
func appliesNot(t *testing.T, v *vault.Vault, x api.Tree, l []api.Change, want api.Errno) {
	t.Helper()
	unchanged(t, v, func() {
		y, e := diff.Apply(v, x, l)
		equal(t, fmt.Sprintf("Apply of %q", told(l)), fmt.Sprint(y, e), fmt.Sprint(empty, want))
	})
}

// script is changes that are made one behind the other, each for what those ahead leave.
type script struct {
	r    *draw.Numbers
	g    *grove.Grown
	have map[string]string
	l    []api.Change
}

func scriptFor(r *draw.Numbers, g *grove.Grown, l []api.Pair) *script {
	return &script{r: r, g: g, have: family(l)}
}

// key is a key of the tree, one beside it, or one of a change ahead.
func (s *script) key() []byte {
	if n := len(s.l); n > 0 && s.r.Below(4) == 0 && len(s.l[n-1].Key) > 0 {
		return s.l[s.r.Below(n)].Key
	}
	if len(s.g.Pairs) == 0 {
		return grove.Key(s.r)
	}
	return s.g.SomeKey(s.r)
}

// junk stands where a kind of change uses nothing.
func (s *script) junk() []byte {
	switch s.r.Below(4) {
	case 0:
		return value(maxValue + 1)
	case 1:
		return s.r.Bytes(s.r.Below(50))
	}
	return nil
}

// more makes n changes more, each of which can be done.
func (s *script) more(n int) {
	for range n {
		key := s.key()
		c := api.Change{Kind: added, Key: key, Old: s.junk(), New: someValue(s.r)}
		if was, isThere := s.have[string(key)]; isThere {
			c.Kind, c.Old = changed, []byte(was)
			if s.r.Below(2) == 0 {
				c.Kind, c.New = removed, s.junk()
			} else if s.r.Below(6) == 0 {
				c.New = []byte(was)
			}
		}
		s.do(c)
	}
}

func (s *script) do(c api.Change) {
	s.l = append(s.l, c)
	if c.Kind == removed {
		delete(s.have, string(c.Key))
	} else {
		s.have[string(c.Key)] = string(c.New)
	}
}

// faults is a change for each way in which the next one cannot be done, with its error.
func (s *script) faults() map[string]api.Change {
	keys := slices.Sorted(maps.Keys(s.have))
	var isThere []byte
	if len(keys) > 0 {
		isThere = []byte(keys[s.r.Below(len(keys))])
	}
	other := s.key()
	for slices.Contains(keys, string(other)) {
		other = grove.Key(s.r)
	}
	old := []byte(s.have[string(isThere)])
	l := map[string]api.Change{
		"22 kind":          {Kind: []int{0, 4, -1, greatest, lowest}[s.r.Below(5)], Key: other, New: value(3)},
		"22 and all":       {Kind: 9, Old: value(9000), New: value(9000)},
		"7 no key":         {Kind: added + s.r.Below(3), New: value(1)},
		"7 long key":       {Kind: added + s.r.Below(3), Key: make([]byte, maxKey+1), New: value(1)},
		"7 and all":        {Kind: changed, Key: make([]byte, maxKey+1), Old: value(9000), New: value(9000)},
		"8 added":          {Kind: added, Key: other, New: value(maxValue + 1)},
		"20 removed none":  {Kind: removed, Key: other},
		"20 changed none":  {Kind: changed, Key: other, New: value(2)},
		"8 changed, stale": {Kind: changed, Key: other, New: value(maxValue + 1)},
	}
	if len(keys) > 0 {
		l["20 added twice"] = api.Change{Kind: added, Key: isThere, Old: old, New: old}
		l["20 removed another"] = api.Change{Kind: removed, Key: isThere, Old: append(slices.Clone(old), 1)}
		l["20 changed another"] = api.Change{Kind: changed, Key: isThere, Old: append([]byte{1}, old...), New: old}
		l["8 changed"] = api.Change{Kind: changed, Key: isThere, Old: old, New: value(maxValue + 1)}
		l["8 added, stale"] = api.Change{Kind: added, Key: isThere, Old: old, New: value(maxValue + 1)}
	}
	return l
}

// where is at which one of several changes it was.
func where(at, of int) string {
	switch {
	case of < 3:
		return "of few"
	case at == 0:
		return "at the first"
	case at == of-1:
		return "at the last"
	}
	return "at a middle one"
}

// someTree is a tree of a height, or the empty one, in any setting; with its clones.
func someTree(t *testing.T, r *draw.Numbers, height int, hasRoom bool) (*grove.Grown, *vault.Vault, []api.Tree) {
	t.Helper()
	g := grove.Grow(r, nil, grove.Few)
	if height > 0 {
		g = grove.Any(r, height)
	}
	c := grove.Settings(r)
	if r.Below(2) == 0 { // so that counts are what is lacking
		c.More, c.Shared = 80, r.Below(2)
	}
	if hasRoom {
		c = grove.Setting{Refs: 5, Clones: r.Below(2), More: 250, Lasting: r.Below(5)}
	}
	s, trees := c.Lay(r, g)
	return g, vaultOf(t, s), trees
}

// Changes of all kinds, to trees of all kinds, in all settings.
func TestP20_3AnyTree(t *testing.T) {
	t.Parallel()
	r, met := draw.Numbers(641), met{}
	for round := range 700 {
		g, v, trees := someTree(t, &r, round%4, round%3 == 0)
		s := scriptFor(&r, g, g.Pairs)
		s.more(r.Below(16))
		came := applies(t, v, trees[0], s.l, trees[1:]...)
		met[fmt.Sprintf("height %d, error %d", g.Tree.Height, came.e)]++
		if came.e != 0 {
			met[fmt.Sprintf("error %d %s", came.e, where(came.at, len(s.l)))]++
			continue
		}
		equal(t, "the pairs", fmt.Sprint(family(pairs(t, v, came.tree))), fmt.Sprint(s.have))
	}
	met.wants(t, 50, "height 0, error 0", "height 1, error 0", "height 2, error 0", "height 3, error 0")
	met.wants(t, 5, "error 12 at the first", "error 12 at a middle one", "error 12 at the last", "error 13 at the first", "error 13 at a middle one")
}

// A change that cannot be done, at the first place, in the middle and at the last one: what
// those ahead have done is undone, and those behind it are not looked at.
func TestP20_3Faults(t *testing.T) {
	t.Parallel()
	r, met := draw.Numbers(642), met{}
	for round := range 24 {
		g, v, trees := someTree(t, &r, round%4, true)
		for place := range 3 {
			s := scriptFor(&r, g, g.Pairs)
			s.more(place * 3)
			faults := s.faults()
			for _, name := range slices.Sorted(maps.Keys(faults)) {
				var want int
				fmt.Sscan(name, &want)
				l := append(slices.Clone(s.l), faults[name])
				if place < 2 {
					l = append(l, api.Change{Kind: 9}, change(added, "", "", ""), change(removed, "nowhere", "1", ""))
				}
				came := applies(t, v, trees[0], l, trees[1:]...)
				equal(t, name, fmt.Sprint(came.e, came.at), fmt.Sprint(api.Errno(want), len(s.l)))
				if round < 4 {
					appliesNot(t, v, trees[0], l, api.Errno(want))
				}
				met[fmt.Sprintf("%s %s", name, []string{"first", "middle", "last"}[place])]++
			}
		}
	}
	for _, name := range []string{"22 kind", "22 and all", "7 no key", "7 long key", "7 and all", "8 added", "8 changed", "8 changed, stale", "8 added, stale",
		"20 removed none", "20 changed none", "20 added twice", "20 removed another", "20 changed another"} {
		met.wants(t, 15, name+" first", name+" middle", name+" last")
	}
}

// Where several errors apply to one change; a has the value 1, l a long one.
func TestP20_3WhichError(t *testing.T) {
	v := newVault(t, 30, 3)
	long, tooLong := string(value(500)), string(value(maxValue+1))
	x := built(t, v, []api.Pair{{Key: []byte("a"), Value: []byte("1")}, {Key: []byte("e")}, {Key: []byte("l"), Value: []byte(long)}})
	key25, key24 := string(make([]byte, maxKey+1)), string(make([]byte, maxKey))
	for _, c := range []struct {
		c    api.Change
		want api.Errno
	}{
		{change(0, "", "", ""), errKind}, {change(4, "", tooLong, tooLong), errKind}, {change(-1, "a", "1", "2"), errKind}, {change(7, key25, "1", tooLong), errKind},
		{change(lowest, "z", "", ""), errKind}, {change(greatest, "z", "", ""), errKind}, {change(1<<32+1, "z", "", ""), errKind},
		{change(added, "", "", "1"), errKey}, {change(removed, "", "", "1"), errKey}, {change(changed, "", "", "1"), errKey},
		{change(added, key25, "", tooLong), errKey}, {change(removed, key25, "1", tooLong), errKey}, {change(changed, key25, "1", tooLong), errKey},
		{change(added, key24, "", tooLong), errValue}, {change(changed, key24, "1", tooLong), errValue}, {change(removed, key24, "1", tooLong), errStale},
		{change(added, "a", "1", tooLong), errValue}, {change(changed, "a", "1", tooLong), errValue}, {change(changed, "a", "2", tooLong), errValue},
		{change(added, "a", "1", "2"), errStale}, {change(added, "e", "", ""), errStale}, {change(added, "l", "", long), errStale},
		{change(removed, "a", "", ""), errStale}, {change(removed, "a", "2", ""), errStale}, {change(removed, "a", "12", ""), errStale}, {change(removed, "e", "\x00", ""), errStale},
		{change(changed, "a", "", "1"), errStale}, {change(changed, "a", "2", "1"), errStale}, {change(changed, "e", "1", ""), errStale},
		{change(removed, "l", long[1:], ""), errStale}, {change(removed, "l", long[:499], ""), errStale}, {change(removed, "l", long+"1", ""), errStale},
		{change(changed, "l", tooLong, ""), errStale}, {change(removed, "b", "", ""), errStale}, {change(changed, "b", "", ""), errStale}, {change(removed, "b", tooLong, ""), errStale},
		{change(added, "b", tooLong, "2"), 0}, {change(removed, "a", "1", tooLong), 0}, {change(changed, "a", "1", "1"), 0}, {change(changed, "a", "1", ""), 0},
		{change(added, key24, "", string(value(maxValue))), 0}, {change(changed, "l", long, string(value(maxValue))), 0}, {change(removed, "l", long, long), 0},
		{change(removed, "e", "", ""), 0}, {change(changed, "e", "", "2"), 0}, {change(added, "\x00", "", ""), 0},
	} {
		mark := v.Mark()
		if c.want != 0 {
			appliesNot(t, v, x, []api.Change{c.c}, c.want)
		}
		came := applies(t, v, x, []api.Change{c.c})
		equal(t, fmt.Sprintf("Apply of %.40q", told([]api.Change{c.c})), came.e, c.want)
		v.Undo(mark)
	}
}

// What Old says is held against the value, of all lengths.
func TestP20_3Old(t *testing.T) {
	t.Parallel()
	v := newVault(t, 60, 2)
	for _, size := range grove.Sizes() {
		x := built(t, v, []api.Pair{{Key: []byte("k"), Value: value(size)}})
		others := [][]byte{append(value(size), 0), value(size + 1)}
		for _, at := range []int{0, size / 2, size - 1} {
			if size > 0 {
				others = append(others, turned(value(size), at), value(size)[:at], value(size)[1:])
			}
		}
		for _, kind := range []int{removed, changed} {
			for _, old := range others {
				appliesNot(t, v, x, []api.Change{{Kind: kind, Key: []byte("k"), Old: old, New: value(2)}}, errStale)
			}
			mark := v.Mark()
			equal(t, "Apply", applies(t, v, x, []api.Change{{Kind: kind, Key: []byte("k"), Old: value(size), New: value(2)}}).e, 0)
			v.Undo(mark)
		}
		equal(t, "Drop", fork.Drop(v, x), 0)
	}
}

// A change that leans on one ahead of it in the same list.
func TestP20_3OneBehindTheOther(t *testing.T) {
	v := newVault(t, 40, 2)
	x := built(t, v, letters("a1b2"))
	long := string(value(700))
	for _, c := range []struct {
		l    []api.Change
		want string // the pairs then; or the error
	}{
		{[]api.Change{change(added, "c", "", "3"), change(changed, "c", "3", "4"), change(removed, "c", "4", ""), change(added, "c", "", "5")}, "a1b2c5"},
		{[]api.Change{change(removed, "a", "1", ""), change(added, "a", "", "9"), change(changed, "a", "9", "8")}, "a8b2"},
		{[]api.Change{change(changed, "a", "1", long), change(changed, "a", long, "7"), change(changed, "a", "7", "7")}, "a7b2"},
		{[]api.Change{change(removed, "a", "1", ""), change(removed, "b", "2", "")}, ""},
		{[]api.Change{change(removed, "a", "1", ""), change(removed, "b", "2", ""), change(added, "b", "", "3")}, "b3"},
		{[]api.Change{change(added, "c", "", "3"), change(added, "c", "", "3")}, "error 20"},
		{[]api.Change{change(removed, "a", "1", ""), change(removed, "a", "1", "")}, "error 20"},
		{[]api.Change{change(removed, "a", "1", ""), change(changed, "a", "1", "2")}, "error 20"},
		{[]api.Change{change(changed, "a", "1", "2"), change(changed, "a", "1", "2")}, "error 20"},
		{[]api.Change{change(changed, "a", "1", "2"), change(removed, "a", "1", "")}, "error 20"},
		{[]api.Change{change(changed, "a", "1", "2"), change(added, "a", "", "3")}, "error 20"},
		{[]api.Change{change(removed, "a", "1", ""), change(removed, "b", "2", ""), change(changed, "a", "1", "2")}, "error 20"},
	} {
		mark := v.Mark()
		came := applies(t, v, x, c.l)
		got := came.e.Error()
		if came.e == 0 {
			got = ""
			for _, p := range pairs(t, v, came.tree) {
				got += string(p.Key) + string(p.Value)
			}
		}
		equal(t, "Apply of"+told(c.l), got, c.want)
		v.Undo(mark)
		if came.e != 0 {
			appliesNot(t, v, x, c.l, came.e)
		}
	}
}

// Of none: the tree as it is.
func TestP20_3OfNone(t *testing.T) {
	t.Parallel()
	r := draw.Numbers(643)
	for round := range 30 {
		_, v, trees := someTree(t, &r, round%4, false)
		for _, none := range [][]api.Change{nil, {}, {change(9, "", "", "")}} {
			for _, x := range []api.Tree{empty, trees[0]} {
				unchanged(t, v, func() {
					y, e := diff.Apply(v, x, none[:0])
					equal(t, "Apply of none", fmt.Sprint(y, e), fmt.Sprint(x, api.OK))
				})
			}
		}
	}
}

// With each number of free pages: where it ends, put and cut tell. Faults behind that place
// are not looked at.
func TestP20_3Room(t *testing.T) {
	t.Parallel()
	r, met := draw.Numbers(644), met{}
	for round := range 45 {
		g := grove.Any(&r, 1+round%3)
		s, trees := grove.Setting{Refs: 4, Clones: round % 2, More: 90, Lasting: []int{0, 4, 2}[round%3]}.Lay(&r, g)
		l := scriptFor(&r, g, g.Pairs)
		l.more(3 + r.Below(4))
		for n := 0; ; n++ {
			left := s.Copy()
			left.Leave(&r, n)
			came := applies(t, vaultOf(t, left), trees[0], l.l, trees[1:]...)
			if came.e == 0 {
				met["in the end it is done"]++
				break
			}
			met[fmt.Sprintf("error %d %s", came.e, where(came.at, len(l.l)))]++
			if came.at+1 < len(l.l) {
				behind := slices.Clone(l.l)
				behind[came.at+1].Kind = 0
				equal(t, "with a fault behind it", applies(t, vaultOf(t, left), trees[0], behind).e, errSpace)
			}
		}
	}
	met.wants(t, 45, "in the end it is done")
	met.wants(t, 20, "error 12 at the first", "error 12 at a middle one", "error 12 at the last")
}

// A leaf that is shared, whose value's page is at Refs: nothing can be done to it, be it
// the first change, one in the middle or the last.
func TestP20_3Refs(t *testing.T) {
	pages := []api.Page{{}, {}, {}, {Kind: indexKind, Level: 1}, B(40, 0)}
	for k, keys := range []string{"abcdef", "hijklm", "opqrst"} {
		p := api.Page{Kind: leafKind}
		for _, x := range []byte(keys) {
			p.Items = append(p.Items, api.Item{Key: []byte{x}})
		}
		pages[k] = p
		pages[3].Items = append(pages[3].Items, api.Item{Key: []byte(keys[:min(k, 1)]), Child: k + 1})
	}
	pages[1].Items[5].Size, pages[1].Items[5].Child = 40, 5
	gone := func(keys string) []api.Change {
		var l []api.Change
		for k := range keys {
			l = append(l, change(removed, keys[k:k+1], "", ""))
		}
		return l
	}
	put := func(kind int, key string) []api.Change { return []api.Change{change(kind, key, "", "1")} }
	for lasts := range 2 {
		s := grove.StoreOf(3, pages, 9)
		s.Counts[1], s.Counts[4] = 2, 3
		for k := range pages {
			s.Lasts[k] = lasts
		}
		x := tree(4, 2, 18)
		for _, c := range []struct {
			l    []api.Change
			want api.Errno
			at   int
		}{
			{gone("ab"), 0, 0}, {gone("op"), 0, 0}, {slices.Concat(put(added, "g"), gone("a"), put(changed, "o")), 0, 0},
			{put(changed, "h"), errRefs, 0}, {put(added, "hh"), errRefs, 0}, {gone("h"), errRefs, 0}, {gone("m"), errStale, 0},
			{slices.Concat(gone("ao"), put(added, "n")), errRefs, 2}, {slices.Concat(gone("a"), put(changed, "i"), gone("o")), errRefs, 1},
			{slices.Concat(gone("a"), gone("i"), put(9, "o")), errRefs, 1}, {slices.Concat(put(9, "o"), gone("i")), errKind, 0},
		} {
			v := vaultOf(t, s)
			came := applies(t, v, x, c.l)
			equal(t, "Apply of"+told(c.l), fmt.Sprint(came.e, came.at), fmt.Sprint(c.want, c.at))
			if c.want != 0 {
				appliesNot(t, v, x, c.l, c.want)
			}
		}
	}
}

// Marks that were made ahead of an Apply are good behind it, whether it is done or refused.
func TestP20_3Marks(t *testing.T) {
	t.Parallel()
	r, refused := draw.Numbers(645), map[api.Errno]int{}
	for round := range 60 {
		g := grove.Any(&r, 1+round%3)
		s, _ := grove.Setting{Refs: 2, More: r.Below(25), Lasting: r.Below(5), Shared: r.Below(2)}.Lay(&r, g)
		v, x := vaultOf(t, s), g.Tree
		type ahead struct {
			mark int
			was  *grove.Store
		}
		var marks []ahead
		for range 12 {
			marks = append(marks, ahead{v.Mark(), grove.StoreFrom(v)})
			l := scriptFor(&r, g, pairs(t, v, x))
			l.more(r.Below(7))
			if faults := l.faults(); r.Below(3) == 0 {
				names := slices.Sorted(maps.Keys(faults))
				l.l = append(l.l, faults[names[r.Below(len(names))]])
			}
			came := applies(t, v, x, l.l)
			if refused[came.e]++; came.e == 0 {
				x = came.tree
			}
		}
		for _, m := range slices.Backward(marks) {
			equal(t, "Undo of a mark that was made ahead", v.Undo(m.mark), true)
			equal(t, "Mark", v.Mark(), m.mark)
			equal(t, "a page that is not as it was at the mark", m.was.Differs(v), 0)
		}
	}
	for _, e := range []api.Errno{0, errKind, errKey, errValue, errStale, errSpace, errRefs} {
		equal(t, fmt.Sprint(e, " is met"), refused[e] > 5, true)
	}
}

// All of a tree is removed, in any order, and all of another one added: the counts are those
// of the trees that are there.
func TestP20_3AllOfIt(t *testing.T) {
	t.Parallel()
	r := draw.Numbers(646)
	for round := range 30 {
		g := grove.Any(&r, 1+round%3)
		s, _ := grove.Setting{Refs: 5, More: 600, Lasting: round % 5}.Lay(&r, g)
		v := vaultOf(t, s)
		clone, e := fork.Clone(v, g.Tree)
		equal(t, "Clone", e, 0)
		var l []api.Change
		for _, k := range grove.Shuffle(&r, len(g.Pairs)) {
			l = append(l, api.Change{Kind: removed, Key: g.Pairs[k-1].Key, Old: g.Pairs[k-1].Value})
		}
		equal(t, "Apply", fmt.Sprint(applies(t, v, g.Tree, l, clone).tree), fmt.Sprint(empty))
		came := applies(t, v, empty, diff.Turn(l), clone)
		equal(t, "the pairs", toldPairs(pairs(t, v, came.tree)), toldPairs(g.Pairs))
		counts, e := fork.Counts(v, clone, came.tree)
		equal(t, "Counts", e, 0)
		equal(t, "the counts are right", slices.Equal(counts, v.Counts()), true)
	}
}

// Apply is done to the tree that it is handed, whatever came of an earlier one.
func TestP20_3TwiceToOneTree(t *testing.T) {
	v := newVault(t, 60, 3)
	x := built(t, v, letters("a1b2c3d4"))
	for range 2 {
		equal(t, "Keep", v.Keep(x.Root), 0)
	}
	l := []api.Change{change(changed, "b", "2", "9"), change(added, "e", "", "5")}
	first := applies(t, v, x, l, x, x)
	second := applies(t, v, x, l, first.tree, x)
	equal(t, "the roots are two", first.tree.Root != second.tree.Root, true)
	for _, y := range []api.Tree{first.tree, second.tree} {
		equal(t, "the pairs", toldPairs(pairs(t, v, y)), toldPairs(letters("a1b9c3d4e5")))
	}
	z, _, e := put.Put(v, first.tree, []byte("z"), bytes.Repeat([]byte("z"), 40))
	equal(t, "Put", e, 0)
	equal(t, "how many differ", len(list(t, v, z, second.tree, allKeys)), 1)
}
