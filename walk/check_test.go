package walk_test

import (
	"bytes"
	"fmt"
	"testing"

	"coppice/api"
	"coppice/draw"
	"coppice/grove"
	"coppice/page"
	"coppice/vault"
	"coppice/walk"
)

// modelCheck is Check as the promise tells it, word for word, over pages from 1 on, all
// of which are there but for the zero ones.
func modelCheck(pages []api.Page, t api.Tree) api.Errno {
	if t.Root == 0 && t.Height == 0 && t.Items == 0 {
		return 0
	}
	if t.Root == 0 || t.Height < 1 || t.Height > maxHeight || t.Items < 1 {
		return errForm
	}
	m := &model{pages: pages}
	if e := m.into(t.Root, t.Height-1, true, nil, nil); e != 0 {
		return e
	}
	if m.keys != t.Items {
		return errMany
	}
	return 0
}

type model struct {
	pages []api.Page
	gone  []int
	keys  int
}

// opened is a page that is gone into.
func (m *model) opened(n int) (api.Page, bool) {
	for _, x := range m.gone {
		if x == n {
			return api.Page{}, false
		}
	}
	if n < 1 || n > len(m.pages) || m.pages[n-1].Kind == 0 {
		return api.Page{}, false
	}
	m.gone = append(m.gone, n)
	return m.pages[n-1], true
}

// into goes into a page whose keys may not be below one of los, nor reach one of his.
func (m *model) into(n, level int, root bool, los, his [][]byte) api.Errno {
	p, ok := m.opened(n)
	switch {
	case !ok, level == 0 && p.Kind != leafKind, level != 0 && (p.Kind != indexKind || p.Level != level):
		return errPage
	case !root && len(p.Items) < least, root && p.Kind == indexKind && len(p.Items) < 2:
		return errForm
	case level == 0:
		return m.leaf(p, los, his)
	}
	for k, i := range p.Items {
		lo, hi := append([][]byte{i.Key}, los...), his
		if k+1 < len(p.Items) {
			hi = append([][]byte{p.Items[k+1].Key}, his...)
		}
		if e := m.into(i.Child, level-1, false, lo, hi); e != 0 {
			return e
		}
	}
	return 0
}

func (m *model) leaf(p api.Page, los, his [][]byte) api.Errno {
	for _, i := range p.Items {
		m.keys++
		for _, lo := range los {
			if bytes.Compare(i.Key, lo) < 0 {
				return errOrder
			}
		}
		for _, hi := range his {
			if bytes.Compare(i.Key, hi) >= 0 {
				return errOrder
			}
		}
		if i.Size > inline {
			if e := m.value(i); e != 0 {
				return e
			}
		}
	}
	return 0
}

func (m *model) value(i api.Item) api.Errno {
	n, lacking := i.Child, i.Size
	for lacking > 0 {
		p, ok := m.opened(n)
		if !ok || p.Kind != blobKind {
			return errPage
		}
		if lacking >= chunk && len(p.Data) != chunk || lacking < chunk && len(p.Data) != lacking {
			return errForm
		}
		lacking -= len(p.Data)
		if p.Next == 0 && lacking > 0 || p.Next != 0 && lacking == 0 {
			return errForm
		}
		n = p.Next
	}
	return 0
}

// refused: Check tells this of the tree on these pages, the model too.
func refused(t *testing.T, what string, want api.Errno, tree api.Tree, pages ...api.Page) {
	t.Helper()
	for _, v := range []*vault.Vault{heldPages(t, pages...), freshPages(t, pages...)} {
		unchanged(t, v, func() { equal(t, "Check of "+what, walk.Check(v, tree), want) })
	}
	equal(t, "the model of "+what, modelCheck(pages, tree), want)
}

// sound: the tree is sound on these pages.
func sound(t *testing.T, what string, tree api.Tree, pages ...api.Page) {
	t.Helper()
	refused(t, what, 0, tree, pages...)
}

// changed is the pages with some of them, by their numbers, in the place of others.
func changed(pages []api.Page, others map[int]api.Page) []api.Page {
	l := append([]api.Page(nil), pages...)
	for n, p := range others {
		l[n-1] = p
	}
	return l
}

// Trees whose Root, Height or Items cannot be, and the empty one; of no page is asked.
func TestP14_5Tree(t *testing.T) {
	v := heldPages(t, leaf("aceg"), leaf("mprtv"), index(1, "m", 1, 2), leaf("a"))
	odd := []int{lowest, -1 << 32, -12, -1, 0, 1, 2, 3, 4, 5, 9, 11, 12, 13, 14, 255, 256, 257, 258, 1 << 16, 1<<32 + 1, 1<<32 + 2, greatest}
	type top struct{ root, height int }
	items := map[top]int{{1, 1}: 4, {2, 1}: 5, {3, 2}: 9, {4, 1}: 1} // of what is there
	unchanged(t, v, func() {
		for _, root := range odd {
			for _, height := range odd {
				for _, n := range odd {
					tree := api.Tree{Root: root, Height: height, Items: n}
					has, there := items[top{root, height}]
					want := api.Errno(0)
					switch {
					case tree == empty || n == has && there:
					case root == 0 || height < 1 || height > maxHeight || n < 1:
						want = errForm
					case there:
						want = errMany
					default:
						want = errPage
					}
					checks(t, v, tree, want)
				}
			}
		}
	})
}

// A root may have few items: a leaf one, an index two. No other page may have fewer
// than Least.
func TestP14_5Items(t *testing.T) {
	letters := "abcdefgh"
	for n := 1; n <= most; n++ {
		sound(t, "a root", api.Tree{Root: 1, Height: 1, Items: n}, leaf(letters[:n]))
		want := api.Errno(0)
		if n < least {
			want = errForm
		}
		tree := api.Tree{Root: 1, Height: 2, Items: n + 4}
		refused(t, "a left leaf", want, tree, index(1, "m", 2, 3), leaf(letters[:n]), leaf("mnop"))
		refused(t, "a right leaf", want, tree, index(1, "a", 3, 2), leaf(letters[:n]), leaf("1234"))
	}
	leaves := make([]api.Page, 16)
	for k := range leaves {
		leaves[k] = leaf(string([]byte{byte(8 * k), byte(8*k + 1), byte(8*k + 2), byte(8*k + 3)}))
	}
	separators := "\x08\x10\x18\x20\x28\x30\x38\x40\x48\x50\x58\x60\x68\x70\x78"
	for n := 2; n <= most; n++ { // an index of n leaves beside one of the others
		want := api.Errno(0)
		if n < least {
			want = errForm
		}
		children := []int{1, 2, 3, 4, 5, 6, 7, 8, 9, 10, 11, 12, 13, 14, 15, 16}
		left, right := index(1, separators, children[:n]...), index(1, separators[n:], children[n:n+6]...)
		tree := api.Tree{Root: 19, Height: 3, Items: 4 * (n + 6)}
		refused(t, "a left index", want, tree, append(leaves, left, right, index(2, separators[n-1:], 17, 18))...)
		left, right = index(1, separators, children[:6]...), index(1, separators[6:], children[6:n+6]...)
		refused(t, "a right index", want, tree, append(leaves, left, right, index(2, separators[5:], 17, 18))...)
		sound(t, "a root", api.Tree{Root: 17, Height: 2, Items: 4 * n}, append(leaves, index(1, separators, children[:n]...))...)
	}
}

// three is a sound tree of the height 3 on the pages 1 to 11, with long values; page 12
// is free, page 13 a leaf of none, page 14 a blob of none.
func three() ([]api.Page, api.Tree) {
	return []api.Page{
		leaf("2345"), leaf("6789"), leafOf(long("A", 500, 15), short("B", "x"), short("C", ""), long("D", 33, 17)), leaf("FGHI"),
		leaf("QRST"), leaf("bcde"), leaf("nopq"), leafOf(short("u", ""), short("v", ""), short("w", ""), long("x", 961, 18)),
		index(1, "6AE", 1, 2, 3, 4), index(1, "ajs", 5, 6, 7, 8), index(2, "M", 9, 10),
		{}, leaf("GHIJ"), part(480, 0),
		part(480, 16), part(20, 0), part(33, 0), part(480, 19), part(480, 20), part(1, 0),
	}, api.Tree{Root: 11, Height: 3, Items: 32}
}

// Each page of a tree is one that is not there.
func TestP14_5NotThere(t *testing.T) {
	pages, tree := three()
	sound(t, "three", tree, pages...)
	reached := []int{1, 2, 3, 4, 5, 6, 7, 8, 9, 10, 11, 15, 16, 17, 18, 19, 20}
	for _, n := range reached {
		refused(t, fmt.Sprintf("page %d, free", n), errPage, tree, changed(pages, map[int]api.Page{n: {}})...)
		v := heldPages(t, pages...)
		v.Take(n) // its count is 0 then, but it lasts: it is Pending
		equal(t, "State", v.State(n), pending)
		checks(t, v, tree, errPage)
	}
	for _, n := range []int{12, 21, 22, 65536} {
		refused(t, "a leaf that is not there", errPage, tree, changed(pages, map[int]api.Page{9: index(1, "6AE", 1, 2, n, 4)})...)
		refused(t, "an index that is not there", errPage, tree, changed(pages, map[int]api.Page{11: index(2, "M", n, 10)})...)
		refused(t, "a root that is not there", errPage, api.Tree{Root: n, Height: 3, Items: 32}, pages...)
		refused(t, "a value that is not there", errPage, tree, changed(pages, map[int]api.Page{7: leafOf(short("n", ""), long("o", 50, n), short("p", ""), short("q", ""))})...)
		refused(t, "the rest of a value that is not there", errPage, tree, changed(pages, map[int]api.Page{18: part(480, n)})...)
	}
}

// Pages that were gone into before: in a ring, twice under one index, under two, as
// parts of two values or twice of one.
func TestP14_5GoneInto(t *testing.T) {
	pages, tree := three()
	for what, others := range map[string]map[int]api.Page{
		"a leaf twice, side by side":     {9: index(1, "6AE", 1, 2, 2, 4)},
		"a leaf twice, at both ends":     {9: index(1, "6AE", 1, 2, 3, 1)},
		"a leaf under two":               {10: index(1, "ajs", 4, 6, 7, 8)},
		"an index twice":                 {11: index(2, "M", 9, 9)},
		"a ring of an index":             {9: index(1, "6AE", 9, 2, 3, 4)},
		"a ring of the root":             {11: index(2, "M", 11, 10)},
		"a ring back to the root":        {9: index(1, "6AE", 1, 2, 3, 11)},
		"a value's page of another one":  {8: leafOf(short("u", ""), short("v", ""), short("w", ""), long("x", 33, 17))},
		"a value's page twice":           {18: part(480, 18)},
		"a value's pages in a ring":      {19: part(480, 18)},
		"a value's rest of another one":  {19: part(480, 16), 16: part(20, 0)},
		"a value's first page as a leaf": {10: index(1, "ajs", 5, 6, 15, 8)},
		"a leaf as a value's page":       {16: part(20, 0), 15: part(480, 1)},
		"a leaf itself as its value":     {3: leafOf(long("A", 500, 3), short("B", ""), short("C", ""), short("D", ""))},
		"one leaf's values, one page":    {3: leafOf(long("A", 33, 17), short("B", ""), short("C", ""), long("D", 33, 17))},
	} {
		refused(t, what, errPage, tree, changed(pages, others)...)
	}
	// Of two values with the same page the second one tells, though it is well formed.
	shared := leafOf(short("u", ""), long("v", 33, 17), short("w", ""), short("x", ""))
	refused(t, "shared by two", errPage, tree, changed(pages, map[int]api.Page{8: shared})...)
	sound(t, "not shared", tree, changed(pages, map[int]api.Page{8: shared, 3: leaf("ABCD")})...)
}

// Pages of another kind or level than the one that is to be there.
func TestP14_5KindAndLevel(t *testing.T) {
	pages, tree := three()
	for what, others := range map[string]map[int]api.Page{
		"a blob as a leaf":                  {9: index(1, "6AE", 1, 14, 3, 4)},
		"an index as a leaf":                {1: index(1, "6", 2, 13)},
		"a leaf as an index":                {11: index(2, "M", 13, 10)},
		"a blob as an index":                {11: index(2, "M", 14, 10)},
		"an index of a higher level":        {9: index(2, "6AE", 1, 2, 3, 4)},
		"an index of the highest level":     {9: index(11, "6AE", 1, 2, 3, 4)},
		"a root of a higher level":          {11: index(3, "M", 9, 10)},
		"a root of a lower level":           {11: index(1, "M", 9, 10)},
		"a leaf as the root":                {11: leaf("a")},
		"a blob as the root":                {11: part(1, 0)},
		"a leaf as a value":                 {17: leaf("abcd")},
		"an index as a value":               {17: index(1, "m", 13, 14)},
		"a leaf as the last part of one":    {20: leaf("abcd")},
		"an index as the last part of one":  {20: index(1, "m", 13, 14)},
		"a leaf that is in the range as it": {15: leaf("A")},
	} {
		refused(t, what, errPage, tree, changed(pages, others)...)
	}
	for h := 1; h <= maxHeight; h++ {
		want := api.Errno(errPage)
		if h == tree.Height {
			want = 0
		}
		refused(t, "another Height", want, api.Tree{Root: 11, Height: h, Items: 32}, pages...)
	}
}

// Keys that lie outside of the range of their leaf: at each end of it, by one and by
// far, also where the bound is that of an index further up.
func TestP14_5Ranges(t *testing.T) {
	pages, tree := three()
	for what, others := range map[string]map[int]api.Page{
		"the first key below":                {2: leaf("5789")},
		"the last key at the end":            {2: leaf("678A")},
		"the last key above":                 {2: leaf("678Z")},
		"all keys below":                     {2: leaf("./01")},
		"all keys above":                     {1: leaf("yz{}")},
		"the first leaf's last key":          {1: leaf("2346")},
		"the last leaf's first key":          {8: leaf("ruvw")},
		"below a bound further up":           {5: leaf("LRST")},
		"at a bound further up":              {4: leaf("FGHM")},
		"above a bound further up":           {4: leaf("FGHN")},
		"a separator below the index's own":  {10: index(1, "Ljs", 5, 6, 7, 8)},
		"a separator at the index's own":     {10: index(1, "Mjs", 5, 6, 7, 8)},
		"a separator above the index's own":  {9: index(1, "6AN", 1, 2, 3, 4)},
		"separators that stand too low":      {9: index(1, "67A", 1, 2, 3, 4)},
		"separators that stand too high":     {9: index(1, "6AG", 1, 2, 3, 4)},
		"a bound that is no longer the same": {11: index(2, "Z", 9, 10)},
	} {
		refused(t, what, errOrder, tree, changed(pages, others)...)
	}
	for what, others := range map[string]map[int]api.Page{
		"a first key at its bound":    {5: leaf("MRST"), 4: leaf("EGHI")},
		"keys at the ends of all":     {1: leaf("\x00245"), 8: leafOf(short("s", ""), short("\xff", ""), short("\xff\x00", ""), long(string(bytes.Repeat([]byte{0xff}, maxKey)), 961, 18))},
		"a last key just below":       {4: leafOf(short("E", ""), short("F", ""), short("G", ""), short("L"+string(bytes.Repeat([]byte{0xff}, maxKey-1)), ""))},
		"separators as low as can be": {9: index(1, "6AE", 1, 2, 3, 4), 11: index(2, "J", 9, 10), 10: index(1, "Ujs", 5, 6, 7, 8)},
	} {
		sound(t, what, tree, changed(pages, others)...)
	}
	// Where an index has separators outside of its range, a child has no range at all:
	// it is gone into all the same.
	outside := changed(pages, map[int]api.Page{10: index(1, "GHs", 5, 6, 7, 8), 5: {}})
	refused(t, "a child without a range, not there", errPage, tree, outside...)
	refused(t, "a child without a range, with few items", errForm, tree, changed(outside, map[int]api.Page{5: leaf("QRS")})...)
	refused(t, "a child without a range", errOrder, tree, changed(outside, map[int]api.Page{5: leaf("QRST")})...)
}

// withValue is a tree with one value on the pages from 2 on.
func withValue(size int, parts ...api.Page) ([]api.Page, api.Tree) {
	return append([]api.Page{leafOf(short("a", "x"), long("b", size, 2), short("c", ""))}, parts...), api.Tree{Root: 1, Height: 1, Items: 3}
}

// Values of each length, whose pages have too few or too many bytes, end too early or
// go on too far.
func TestP14_5Values(t *testing.T) {
	for _, size := range []int{inline + 1, inline + 2, chunk - 1, chunk, chunk + 1, 2*chunk - 1, 2 * chunk, 2*chunk + 1, 3 * chunk, maxValue - 1, maxValue} {
		var parts []api.Page
		for at := 0; at < size; at += chunk {
			parts = append(parts, part(min(chunk, size-at), len(parts)+3))
		}
		end := len(parts) - 1
		parts[end].Next = 0
		pages, tree := withValue(size, append(parts, part(1, 0), part(chunk, 0))...)
		sound(t, "a value", tree, pages...)
		for at, p := range parts {
			no := at + 2
			for _, n := range []int{1, len(p.Data) - 1, len(p.Data) + 1, chunk - 1, chunk} {
				if n != len(p.Data) && n >= 1 && n <= chunk {
					refused(t, fmt.Sprintf("a part %d of %d bytes", at, n), errForm, tree, changed(pages, map[int]api.Page{no: part(n, p.Next)})...)
				}
			}
			if at < end {
				refused(t, "a value that ends too early", errForm, tree, changed(pages, map[int]api.Page{no: part(chunk, 0)})...)
			}
		}
		for _, next := range []int{1, 2, end + 2, end + 3, end + 4, 60000} { // wherever it goes on
			refused(t, "a value that goes on too far", errForm, tree, changed(pages, map[int]api.Page{end + 2: part(len(parts[end].Data), next)})...)
		}
		for _, other := range []int{inline + 1, size - 1, size + 1, size - chunk, size + chunk, maxValue} {
			if other != size && other > inline && other <= maxValue {
				others, tree := withValue(other, pages[1:]...)
				refused(t, "a value of another Size", errForm, tree, others...)
			}
		}
	}
	pages, tree := withValue(inline+1, part(inline+1, 0))
	pages[0].Items[1] = short("b", string(bytes.Repeat([]byte{'x'}, inline)))
	sound(t, "a value that stands in its leaf", tree, pages...)
}

// Trees with more or fewer keys than Items.
func TestP14_5Many(t *testing.T) {
	pages, tree := three()
	for _, items := range []int{1, 31, 33, 64, 1<<32 + 32, greatest} {
		refused(t, "other Items", errMany, api.Tree{Root: 11, Height: 3, Items: items}, pages...)
	}
	for _, items := range []int{0, -1, -32, lowest} {
		refused(t, "Items below 1", errForm, api.Tree{Root: 11, Height: 3, Items: items}, pages...)
	}
	refused(t, "a leaf with a key more", errMany, tree, changed(pages, map[int]api.Page{1: leaf("12345")})...)
	sound(t, "a leaf with a key more, counted", api.Tree{Root: 11, Height: 3, Items: 33}, changed(pages, map[int]api.Page{1: leaf("12345")})...)
	refused(t, "an index with a leaf fewer", errForm, tree, changed(pages, map[int]api.Page{10: index(1, "js", 6, 7, 8)})...)
}

// Where several errors could be told, the first one is, in the order in which pages are
// gone into.
func TestP14_5TheFirstTells(t *testing.T) {
	pages, tree := three()
	wrong := []struct {
		n    int
		p    api.Page
		want api.Errno
	}{ // in the order in which they are come to
		{11, api.Page{}, errPage},
		{9, index(1, "6E", 1, 2, 4), errForm},
		{9, index(2, "6AE", 1, 2, 3, 4), errPage},
		{1, leaf("235"), errForm},
		{1, leaf("2347"), errOrder},
		{2, part(1, 0), errPage},
		{2, leaf("5"), errForm},
		{3, leafOf(long("A", 479, 15), short("B", "x"), short("C", ""), short("Z", "")), errForm},
		{3, leafOf(long("A", 500, 14), long("B", 40, 12), short("C", ""), short("D", "")), errForm},
		{16, leaf("a"), errPage},
		{3, leafOf(long("A", 500, 15), short("B", "x"), short("C", ""), long("Z", 40, 12)), errOrder},
		{17, part(34, 0), errForm},
		{4, leaf("FGHZ"), errOrder},
		{10, index(1, "aj", 5, 6, 7), errForm},
		{5, leaf("QRS"), errForm},
		{6, api.Page{}, errPage},
		{8, leafOf(short("r", ""), long("v", 961, 12), short("w", ""), short("x", "")), errOrder},
		{19, part(479, 0), errForm},
		{20, part(1, 1), errForm},
	}
	more := tree
	more.Items++
	for k, x := range wrong {
		one := changed(pages, map[int]api.Page{x.n: x.p})
		refused(t, fmt.Sprintf("fault %d", k), x.want, tree, one...)
		refused(t, fmt.Sprintf("fault %d, and other Items", k), x.want, more, one...)
		for at, y := range wrong[k+1:] {
			if y.n == x.n {
				continue
			}
			refused(t, fmt.Sprintf("fault %d and %d", k, k+1+at), x.want, tree, changed(one, map[int]api.Page{y.n: y.p})...)
		}
		none := tree
		none.Height = maxHeight + 1
		refused(t, "a Height that cannot be", errForm, none, one...)
	}
	// Within one page: what it is, ahead of how many items it has, ahead of its keys.
	for what, x := range map[string]struct {
		p    api.Page
		want api.Errno
	}{
		"another level, few items":                 {index(2, "z", 1, 1), errPage},
		"few items, a key that does not lie there": {leaf("yz"), errForm},
		"few items, a value that is not there":     {leafOf(long("6", 40, 12)), errForm},
		"a key that doesn't lie, no value":         {leafOf(long("1", 40, 12), short("7", ""), short("8", ""), short("9", "")), errOrder},
		"no value, then a key that doesn't lie":    {leafOf(long("6", 40, 12), short("7", ""), short("8", ""), short("Z", "")), errPage},
		"a bad value, then one that isn't there":   {leafOf(long("6", 40, 14), long("7", 40, 12), short("8", ""), short("9", "")), errForm},
	} {
		refused(t, what, x.want, tree, changed(pages, map[int]api.Page{2: x.p})...)
	}
	// Within one page of a value: whether it was gone into before, ahead of its bytes.
	refused(t, "a part twice, of too few bytes", errPage, tree, changed(pages, map[int]api.Page{18: part(480, 15), 15: part(480, 16)})...)
	refused(t, "a ring of parts, the Size of which fits", errPage, api.Tree{Root: 1, Height: 1, Items: 1}, leafOf(long("a", 960, 2)), part(480, 2))
	refused(t, "too few bytes, then a ring", errForm, api.Tree{Root: 1, Height: 1, Items: 1}, leafOf(long("a", 960, 2)), part(479, 2))
}

// Indexes as high as can be: the way down is gone, and what it comes to tells.
func TestP14_5Highest(t *testing.T) {
	var pages []api.Page // page n is an index of the level n; page 12 is a leaf
	for level := 1; level < maxHeight; level++ {
		first := level - 1
		if level == 1 {
			first = 12
		}
		pages = append(pages, index(level, "mno", first, 13, 13, 13))
	}
	pages = append(pages, leaf("abcd"))
	for h := 1; h <= maxHeight; h++ {
		root := h - 1
		if h == 1 {
			root = 12
		}
		want := api.Errno(errPage) // behind the leaf, page 13 is not there
		if h == 1 {
			want = 0
		}
		refused(t, "a way down", want, api.Tree{Root: root, Height: h, Items: 4}, pages...)
		if h > 1 {
			refused(t, "with a leaf of few items", errForm, api.Tree{Root: root, Height: h, Items: 4}, changed(pages, map[int]api.Page{12: leaf("abc")})...)
			refused(t, "with a leaf of other keys", errOrder, api.Tree{Root: root, Height: h, Items: 4}, changed(pages, map[int]api.Page{12: leaf("abcm")})...)
			checks(t, heldPages(t, pages...), api.Tree{Root: root, Height: h + 1, Items: 4}, map[bool]api.Errno{true: errForm, false: errPage}[h == maxHeight])
		}
	}
}

// spoiled is the pages with something of one of them turned, so that each is still one
// that a vault takes.
func spoiled(r *draw.Numbers, pages []api.Page, tree *api.Tree) []api.Page {
	n := 1 + r.Below(len(pages))
	p := deep(pages[n-1])
	anyPage := func() int { return 1 + r.Below(len(pages)) }
	item := func() *api.Item {
		if len(p.Items) == 0 {
			return &api.Item{}
		}
		return &p.Items[r.Below(len(p.Items))]
	}
	switch r.Below(13) {
	case 0:
		p = api.Page{}
	case 1:
		p = deep(pages[anyPage()-1])
	case 2, 3:
		item().Child = anyPage()
	case 4, 5:
		item().Key = grove.Key(r)
	case 6:
		if len(p.Items) > 0 {
			p.Items = p.Items[:len(p.Items)-1]
		}
	case 7:
		p.Level = r.Below(4)
	case 8:
		p.Next = r.Below(len(pages) + 2)
	case 9:
		p.Data = r.Bytes(1 + r.Below(chunk))
	case 10:
		item().Size += r.Below(3) - 1
	case 11:
		tree.Items += r.Below(3) - 1
	case 12:
		at := []*int{&tree.Root, &tree.Height}[r.Below(2)]
		*at += r.Below(3) - 1
	}
	if p.Kind != 0 && page.Check(p) != 0 {
		return pages
	}
	return changed(pages, map[int]api.Page{n: p})
}

// deep is a page in memory of its own.
func deep(p api.Page) api.Page {
	p.Items = append([]api.Item(nil), p.Items...)
	return p
}

// Trees that are spoiled at one or more places, held against the model.
func TestP14_5AnyPages(t *testing.T) {
	r, met := draw.Numbers(152), map[api.Errno]int{}
	for range 20 {
		for _, g := range grove.Trees(&r, 3) {
			for range 40 {
				pages, tree := g.Pages, g.Tree
				for range 1 + r.Below(3) {
					pages = spoiled(&r, pages, &tree)
				}
				want := modelCheck(pages, tree)
				checks(t, heldPages(t, pages...), tree, want)
				met[want]++
			}
		}
	}
	for _, e := range []api.Errno{0, errMany, errForm, errOrder, errPage} {
		if met[e] < 100 {
			t.Errorf("%d was met %d times", e, met[e])
		}
	}
}

// Trees of all kinds are sound; so is each one beneath an index, as a tree of its own.
func TestP14_5Sound(t *testing.T) {
	r := draw.Numbers(153)
	for _, g := range grove.Trees(&r, 4) {
		for _, v := range []*vault.Vault{heldPages(t, g.Pages...), freshPages(t, g.Pages...)} {
			checks(t, v, g.Tree, 0)
			equal(t, "the model", modelCheck(g.Pages, g.Tree), 0)
			for h, level := range g.Levels {
				items := 0
				for _, s := range level {
					items += under(t, v, api.Tree{Root: s.No, Height: h + 1})
				}
				equal(t, "Items of a level", items, g.Tree.Items)
			}
		}
	}
}

// under is how many keys are beneath a page: so many and no other number of them are
// taken for sound.
func under(t *testing.T, v *vault.Vault, tree api.Tree) int {
	t.Helper()
	l, e := walk.List(v, api.Tree{Root: tree.Root, Height: tree.Height, Items: 1}, all())
	equal(t, "List", e, 0)
	for d := -1; d <= 1; d++ {
		tree.Items = len(l) + d
		want := api.Errno(errMany)
		switch {
		case d == 0:
			want = 0
		case tree.Items == 0:
			want = errForm
		}
		checks(t, v, tree, want)
	}
	return len(l)
}
