package bulk_test

import (
	"bytes"
	"fmt"
	"testing"

	"coppice/api"
	"coppice/bulk"
	"coppice/draw"
	"coppice/grove"
	"coppice/vault"
	"coppice/walk"
)

// buildsNot is a Build that must answer this error, and change nothing.
func buildsNot(t *testing.T, v *vault.Vault, l []api.Pair, want api.Errno) {
	t.Helper()
	unchanged(t, v, func() {
		x, e := bulk.Build(v, l)
		equal(t, fmt.Sprintf("Build of %d pairs", len(l)), fmt.Sprint(x, e), fmt.Sprint(empty, want))
	})
}

// The chapter's table, row by row.
func TestExamples(t *testing.T) {
	v := newVault(t, 20, 9)
	unchanged(t, v, func() {
		x, e := bulk.Build(v, nil)
		equal(t, "of none", fmt.Sprint(x, e), fmt.Sprint(empty, api.OK))
	})

	x, e := builds(t, v, letters("abcdefghi"))
	equal(t, "of a to i", fmt.Sprint(x, e), fmt.Sprint(tree(3, 2, 9), api.OK))
	equal(t, "its pages", keys(t, v, 1)+"; "+keys(t, v, 2)+"; "+keys(t, v, 3), "a b c d e; f g h i; - f")

	w := newVault(t, 20, 9)
	y, e := builds(t, w, rising(17))
	equal(t, "of 17 keys", fmt.Sprint(y, e), fmt.Sprint(tree(4, 2, 17), api.OK))
	equal(t, "its pages", fmt.Sprint(items(t, w, 1), items(t, w, 2), items(t, w, 3), items(t, w, 4)), "6 6 5 3")

	w = newVault(t, 20, 9)
	y, e = builds(t, w, rising(65))
	equal(t, "of 65 keys", fmt.Sprint(y, e), fmt.Sprint(tree(12, 3, 65), api.OK))
	sizes := ""
	for n := 1; n <= 12; n++ {
		sizes += fmt.Sprint(items(t, w, n), " ")
	}
	equal(t, "its pages", sizes, "8 8 7 7 7 7 7 7 7 5 4 2 ")

	w = newVault(t, 20, 9)
	y, e = builds(t, w, []api.Pair{pair("a", 1000), pair("b", 1)})
	equal(t, "with a long value", fmt.Sprint(y, e), fmt.Sprint(tree(4, 1, 2), api.OK))
	for n, size := range map[int]int{1: 40, 2: 480, 3: 480} {
		p, _ := w.Read(n)
		equal(t, "bytes of a page of the value", len(p.Data), size)
	}
	p, _ := w.Read(4)
	equal(t, "where the value begins", p.Items[0].Child, 3)

	buildsNot(t, w, letters("ba"), errOrder)
	buildsNot(t, w, letters("aa"), errOrder)
	buildsNot(t, w, []api.Pair{pair("a", 3841), pair("", 1)}, errValue)

	w = newVault(t, 20, 9)
	came := loads(t, w, empty, []api.Pair{{Key: []byte("b"), Value: []byte("1")}, {Key: []byte("a"), Value: []byte("1")}, {Key: []byte("b"), Value: []byte("2")}})
	equal(t, "Load", fmt.Sprint(came.tree, came.n, came.e), fmt.Sprint(tree(1, 1, 2), 2, api.OK))
	equal(t, "its pairs", told(pairs(t, w, came.tree)), "1:a1:11:b1:2")
	w = newVault(t, 20, 9)
	loadsNot(t, w, empty, []api.Pair{pair("a", 1), pair("", 1)}, errKey)
	equal(t, "what is put in", w.Tally(free), 20)

	cut, _ := trims(t, v, x, span("c", "h"))
	equal(t, "Trim", fmt.Sprint(cut.n, cut.e), fmt.Sprint(5, api.OK))
	equal(t, "what is left", told(pairs(t, v, cut.tree)), told(letters("abhi")))
	for _, r := range []api.Range{span("c", "h"), span("b\x00", "h"), span("j", "z"), from("j"), span("", "a"), span("i", "a")} {
		unchanged(t, v, func() {
			y, n, e := bulk.Trim(v, cut.tree, r)
			equal(t, "Trim by a range in which no key lies", fmt.Sprint(y, n, e), fmt.Sprint(cut.tree, 0, api.OK))
		})
	}
}

// Each fault, alone and beside others of its pair and of pairs behind it.
func TestP18_1FirstFault(t *testing.T) {
	long := string(bytes.Repeat([]byte("z"), maxKey))
	for _, c := range []struct {
		name string
		l    []api.Pair
		want api.Errno
	}{
		{"a key of the greatest length", []api.Pair{pair(long, 1)}, 0},
		{"a value of the greatest length", []api.Pair{pair("a", maxValue)}, 0},
		{"the first key is never out of order", []api.Pair{pair("\x00", 0), pair("\x00\x00", 0)}, 0},
		{"no key", []api.Pair{pair("", 0)}, errKey},
		{"a key too long", []api.Pair{pair(long+"z", 0)}, errKey},
		{"a key far too long", []api.Pair{{Key: make([]byte, 70000)}}, errKey},
		{"a value too long", []api.Pair{pair("a", maxValue+1)}, errValue},
		{"a value far too long", []api.Pair{pair("a", 100000)}, errValue},
		{"no key, a value too long", []api.Pair{pair("", maxValue+1)}, errKey},
		{"a key too long, a value too long", []api.Pair{pair(long+"z", maxValue+1)}, errKey},
		{"a key that falls", []api.Pair{pair("b", 0), pair("a", 0)}, errOrder},
		{"a key twice", []api.Pair{pair("a", 0), pair("a", 1)}, errOrder},
		{"a key that is a beginning of the one ahead", []api.Pair{pair("ab", 0), pair("a", 0)}, errOrder},
		{"keys are compared as bytes", []api.Pair{pair("\x7f", 0), pair("\x80", 0)}, 0},
		{"keys are compared as bytes, falling", []api.Pair{pair("\x80", 0), pair("\x7f", 0)}, errOrder},
		{"not above the pair ahead, though above the first", []api.Pair{pair("a", 0), pair("c", 0), pair("b", 0)}, errOrder},
		{"no key, which is not above either", []api.Pair{pair("a", 0), pair("", 0)}, errKey},
		{"all three", []api.Pair{pair("b", 0), pair("", maxValue+1)}, errKey},
		{"all three, the key too long", []api.Pair{pair("b", 0), pair("a"+long, maxValue+1)}, errKey},
		{"a value too long of a key that falls", []api.Pair{pair("b", 0), pair("a", maxValue+1)}, errValue},
		{"a value too long of a key twice", []api.Pair{pair("b", 0), pair("b", maxValue+1)}, errValue},
		{"out of order ahead of no key", []api.Pair{pair("b", 0), pair("a", 0), pair("", 0)}, errOrder},
		{"out of order ahead of a value too long", []api.Pair{pair("b", 0), pair("a", 0), pair("c", maxValue+1)}, errOrder},
		{"a value too long ahead of no key", []api.Pair{pair("a", maxValue+1), pair("", 0)}, errValue},
		{"a value too long ahead of one out of order", []api.Pair{pair("b", maxValue+1), pair("a", 0)}, errValue},
		{"no key ahead of all others", []api.Pair{pair("", 0), pair("b", maxValue+1), pair("a", 0)}, errKey},
	} {
		v := newVault(t, 20, 2)
		x, e := builds(t, v, c.l)
		equal(t, c.name, e, c.want)
		if e != 0 {
			equal(t, c.name, x, empty)
			full := vaultOf(t, scattered(new(draw.Numbers), 0))
			buildsNot(t, full, c.l, c.want) // ahead of ErrSpace
		}
	}
}

// Each fault at the first, a middle and the last pair of a long list.
func TestP18_1EachPlace(t *testing.T) {
	for _, n := range []int{2, 9, 65, 300} {
		for _, at := range []int{0, 1, n / 2, n - 2, n - 1} {
			for _, c := range []struct {
				name string
				do   func(l []api.Pair)
				want api.Errno
			}{
				{"no key", func(l []api.Pair) { l[at].Key = nil }, errKey},
				{"a key too long", func(l []api.Pair) { l[at].Key = append(bytes.Clone(l[at].Key), make([]byte, maxKey)...) }, errKey},
				{"a value too long", func(l []api.Pair) { l[at].Value = value(maxValue + 1) }, errValue},
				{"a key twice", func(l []api.Pair) { l[at].Key = l[at-1].Key }, errOrder},
				{"a key that falls", func(l []api.Pair) { l[at].Key = []byte("a") }, errOrder},
				{"a key that falls, a value too long", func(l []api.Pair) { l[at] = pair("a", maxValue+1) }, errValue},
				{"no key, a value too long", func(l []api.Pair) { l[at] = pair("", maxValue+1) }, errKey},
			} {
				if at == 0 && c.want == errOrder {
					continue
				}
				l := rising(n)
				c.do(l)
				for _, pages := range []int{1, 100} {
					buildsNot(t, newVault(t, pages, 2), l, c.want)
				}
			}
		}
	}
}

// Lists with any faults.
func TestP18_1AnyFaults(t *testing.T) {
	t.Parallel()
	r, seen := draw.Numbers(401), map[api.Errno]int{}
	for range 4000 {
		l := grove.Pairs(&r, 1+r.Below(12), 3000)
		for range r.Below(3) {
			at := r.Below(len(l))
			switch r.Below(6) {
			case 0:
				l[at].Key = nil
			case 1:
				l[at].Key = make([]byte, maxKey+1+r.Below(3))
			case 2:
				l[at].Value = value(maxValue + 1 + r.Below(3))
			case 3:
				l[at].Key = grove.Key(&r)
			case 4:
				l[at].Key = l[r.Below(len(l))].Key
			}
		}
		_, e := builds(t, vaultOf(t, scattered(&r, r.Below(20))), l)
		seen[e]++
	}
	for _, e := range []api.Errno{0, errKey, errValue, errOrder, errSpace} {
		equal(t, fmt.Sprint(e, " is met"), seen[e] > 200, true)
	}
}

// someLists is lists of all kinds: short values, long ones here and there, long ones
// alone.
func someLists(r *draw.Numbers, n int) [][]api.Pair {
	long := grove.Pairs(r, n, 0)
	for k := range long {
		sizes := grove.Sizes()[4:] // above Inline
		long[k].Value = value(sizes[r.Below(len(sizes))])
	}
	return [][]api.Pair{grove.Pairs(r, n, 0), grove.Pairs(r, n, 60*n), grove.Pairs(r, n, 20000), long}
}

// With just as many pages free as are wanted all is well, with one fewer, or any number
// below it, nothing has changed.
func TestP18_1Room(t *testing.T) {
	t.Parallel()
	r := draw.Numbers(402)
	for _, n := range []int{1, 2, 7, 8, 9, 15, 16, 17, 63, 64, 65, 66, 200} {
		for _, l := range someLists(&r, n) {
			want := wanted(l)
			s := scattered(&r, want)
			v := vaultOf(t, s)
			_, e := builds(t, v, l)
			equal(t, "with just as many as are wanted", e, 0)
			equal(t, "Free", v.Tally(free), 0)
			_, e = builds(t, v, l)
			equal(t, "once more", e, errSpace)
			for _, fewer := range []int{1, 1, 1, 2, want / 2, want - 1, want} {
				left := s.Copy()
				left.Leave(&r, max(0, want-fewer))
				if fewer > 0 {
					buildsNot(t, vaultOf(t, left), l, errSpace)
				}
			}
			more := scattered(&r, want+1+r.Below(9))
			_, e = builds(t, vaultOf(t, more), l)
			equal(t, "with more than are wanted", e, 0)
		}
	}
}

// Pages that are Pending are not free, until they are settled.
func TestP18_1Pending(t *testing.T) {
	v := newVault(t, 3, 2)
	x, e := builds(t, v, letters("abcdefghi"))
	equal(t, "Build", fmt.Sprint(x, e), fmt.Sprint(tree(3, 2, 9), api.OK))
	v.Settle()
	equal(t, "Drop", v.Drop(3), 0)
	equal(t, "Pending", v.Tally(pending), 3)
	buildsNot(t, v, letters("a"), errSpace)
	v.Settle()
	x, e = builds(t, v, letters("a"))
	equal(t, "Build", fmt.Sprint(x, e), fmt.Sprint(tree(1, 1, 1), api.OK))
}

// Marks that were made ahead of a Build are good behind it, whether it is done or refused;
// none that was made ahead of a Settle is.
func TestP18_1Marks(t *testing.T) {
	t.Parallel()
	r, seen := draw.Numbers(403), map[api.Errno]int{}
	for round := range 40 {
		v := vaultOf(t, scattered(&r, 60))
		var ahead marks
		for k := range 20 {
			ahead.add(v)
			l := grove.Pairs(&r, 1+r.Below(30), 2000)
			if r.Below(4) == 0 {
				l[r.Below(len(l))].Key = nil
			}
			_, e := builds(t, v, l)
			seen[e]++
			if k == round/4 {
				v.Settle()
				for _, x := range ahead {
					equal(t, "Undo of what was settled", x.mark < v.Mark() && v.Undo(x.mark), false)
				}
				ahead = nil
			}
		}
		ahead.good(t, v)
	}
	equal(t, "some were done, others not", seen[0] > 50 && seen[errKey] > 50 && seen[errSpace] > 50, true)
}

// Of each number of pairs, over free pages that have others between them.
func TestP18_2EachNumber(t *testing.T) {
	t.Parallel()
	r := draw.Numbers(404)
	for n := range 200 {
		for _, l := range someLists(&r, n) {
			_, e := builds(t, vaultOf(t, scattered(&r, wanted(l)+r.Below(5))), l)
			equal(t, "Build", e, 0)
		}
	}
	for n := 200; n < 620; n += 1 + r.Below(3) {
		lists := someLists(&r, n)
		_, e := builds(t, vaultOf(t, scattered(&r, wanted(lists[n%3]))), lists[n%3])
		equal(t, "Build", e, 0)
	}
}

// Where the number of pages, or of levels, becomes another one.
func TestP18_2Edges(t *testing.T) {
	t.Parallel()
	for _, n := range []int{8, 16, 24, 32, 64, 72, 128, 504, 512, 520, 576, 1024, 4096} {
		for _, n := range []int{n - 1, n, n + 1} {
			l := rising(n)
			v := newVault(t, wanted(l), 2)
			_, e := builds(t, v, l)
			equal(t, "Build", e, 0)
			equal(t, "Free", v.Tally(free), 0)
		}
	}
}

// A vault of the greatest number of pages, full to the last one; and of a pair more
// nothing.
func TestP18_2TheGreatest(t *testing.T) {
	t.Parallel()
	l := rising(458744) // 57343 leaves, 7168 indexes above them, then 896, 112, 14, 2 and 1
	equal(t, "wanted", wanted(l), maxPages)
	v := newVault(t, maxPages, 2)
	x, e := bulk.Build(v, l)
	equal(t, "Build", fmt.Sprint(x, e), fmt.Sprint(tree(maxPages, 7, len(l)), api.OK))
	equal(t, "Free", v.Tally(free), 0)
	shape(t, v, x, len(l))
	equal(t, "Check", walk.Check(v, x), 0)
	w := newVault(t, maxPages, 2)
	y, e := bulk.Build(w, append(l, pair("l", 1)))
	equal(t, "of a pair more", fmt.Sprint(y, e), fmt.Sprint(empty, api.Errno(errSpace)))
	equal(t, "Free", w.Tally(free), maxPages)
	equal(t, "Mark", w.Mark(), 0)
}

// Separators are as short as can be, and stand at each level where they belong.
func TestP18_2Separators(t *testing.T) {
	for _, c := range []struct{ last, first, sep string }{
		{"d", "e", "e"}, {"d", "ea", "e"}, {"da", "db", "db"}, {"da", "dbc", "db"}, {"d", "d\x00", "d\x00"}, {"d", "da", "d\x00"},
		{"d\xff", "e", "e"}, {"d\xff\xff", "e\x00", "e"}, {"dzz", "f", "e"}, {"d", "dz", "d\x00"}, {"dx", "dzz", "dy"},
	} {
		v := newVault(t, 9, 2)
		l := append(append(letters("0123"), pair(c.last, 0)), append([]api.Pair{pair(c.first, 0)}, letters("xyz")...)...)
		x, e := builds(t, v, l)
		equal(t, "Build", e, 0)
		equal(t, "the separator", keys(t, v, x.Root), "- "+c.sep)
	}

	var l []api.Pair
	for k := range 65 {
		l = append(l, pair(string([]byte{byte('a' + k/26), byte('a' + k%26), 'x', 'y'}), 0))
	}
	v := newVault(t, 12, 2)
	_, e := builds(t, v, l)
	equal(t, "Build", e, 0)
	equal(t, "the first index", keys(t, v, 10), "- ai aq ax be")
	equal(t, "the second index", keys(t, v, 11), "- bs bz cg")
	equal(t, "the root", keys(t, v, 12), "- bl")
}

// The order in which pages are made: the values' of each leaf, each from its last page on,
// then the leaf; the indexes behind all leaves.
func TestP18_2Order(t *testing.T) {
	var l []api.Pair
	for k, size := range []int{0, 500, 32, 33, 960, 961, 1, 480, 481} {
		l = append(l, pair(string([]byte{byte('a' + k)}), size))
	}
	s := grove.StoreOf(2, nil, 20)
	for n, is := range map[int]struct{ count, lasts int }{2: {1, 0}, 5: {1, 1}, 6: {0, 1}, 13: {2, 0}} {
		s.On[n-1], s.Counts[n-1], s.Lasts[n-1] = api.Page{Kind: blobKind, Data: value(9)}, is.count, is.lasts
	}
	v := vaultOf(t, s)
	x, e := builds(t, v, l)
	equal(t, "Build", fmt.Sprint(x, e), fmt.Sprint(tree(18, 2, 9), api.OK))
	for _, c := range []struct {
		no, bytes int
		leadsTo   string
	}{
		{1, 20, "[]"}, {3, 480, "[1]"}, // b
		{4, 33, "[]"},                   // d
		{7, 480, "[]"}, {8, 480, "[7]"}, // e
		{9, 0, "[3 4 8]"},                                   // the leaf of a to e
		{10, 1, "[]"}, {11, 480, "[10]"}, {12, 480, "[11]"}, // f
		{14, 480, "[]"},                  // h
		{15, 1, "[]"}, {16, 480, "[15]"}, // i
		{17, 0, "[12 14 16]"}, // the leaf of f to i
		{18, 0, "[9 17]"},
	} {
		p, _ := v.Read(c.no)
		equal(t, fmt.Sprint("page ", c.no), fmt.Sprint(len(p.Data), " ", grove.LeadsTo(p)), fmt.Sprint(c.bytes, " ", c.leadsTo))
		equal(t, "its count", v.Count(c.no), 1)
	}
}

// Trees of any kind are built beside others, which stay as they were; and built anew of
// what walk.List tells of them they have the same pairs.
func TestP18_6OfWhatListTells(t *testing.T) {
	t.Parallel()
	r, seen := draw.Numbers(405), map[api.Errno]int{}
	for round := range 150 {
		g := grove.Any(&r, 1+round%3)
		c := grove.Settings(&r)
		c.More = r.Below(2*len(g.Pages) + 4)
		s, trees := c.Lay(&r, g)
		v := vaultOf(t, s)
		l, e := walk.List(v, g.Tree, allKeys)
		equal(t, "List", e, 0)
		x, e := builds(t, v, l, trees...)
		if seen[e]++; e != 0 {
			continue
		}
		equal(t, "its pairs", told(pairs(t, v, x)), told(g.Pairs))
		equal(t, "no higher", x.Height <= g.Tree.Height, true)
	}
	equal(t, "some were built, others not", seen[0] > 40 && seen[errSpace] > 10 && len(seen) == 2, true)
}

// No pairs: the empty tree, in any vault, with no free page too.
func TestP18_2OfNone(t *testing.T) {
	r := draw.Numbers(406)
	for round := range 30 {
		s, trees := grove.Settings(&r).Lay(&r, grove.Any(&r, 1+round%2))
		v := vaultOf(t, s)
		for _, none := range [][]api.Pair{nil, {}, make([]api.Pair, 0, 9), letters("abc")[:0]} {
			unchanged(t, v, func() {
				x, e := builds(t, v, none, trees...)
				equal(t, "Build of none", fmt.Sprint(x, e), fmt.Sprint(empty, api.OK))
			})
		}
	}
	v := vaultOf(t, scattered(&r, 0))
	x, e := builds(t, v, nil)
	equal(t, "with no free page", fmt.Sprint(x, e), fmt.Sprint(empty, api.OK))
}
