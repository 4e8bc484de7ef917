package page_test

import (
	"slices"
	"strconv"
	"testing"

	"coppice/api"
	"coppice/draw"
)

// with is a copy of the page, turned.
func with(p api.Page, turn func(*api.Page)) api.Page {
	p = copyOf(p)
	turn(&p)
	return p
}

// The chapter's table, row by row.
func TestExamplesOfCheck(t *testing.T) {
	first := leaf(near("a", "x"))
	checked(t, "a leaf", first, api.OK)
	checked(t, "a leaf of level 1", with(first, func(p *api.Page) { p.Level = 1 }), api.ErrForm)
	checked(t, "a leaf with Next", with(first, func(p *api.Page) { p.Next = 3 }), api.ErrForm)
	checked(t, "a leaf without items", with(first, func(p *api.Page) { p.Items = nil }), api.ErrForm)
	checked(t, "a key twice", leaf(near("a", "x"), near("a", "x")), api.ErrOrder)
	checked(t, "another size", with(first, func(p *api.Page) { p.Items[0].Size = 2 }), api.ErrValue)
	checked(t, "a child", with(first, func(p *api.Page) { p.Items[0].Child = 9 }), api.ErrPage)

	fourth := leaf(far("a", 33, 7))
	checked(t, "a long value", fourth, api.OK)
	checked(t, "without its page", with(fourth, func(p *api.Page) { p.Items[0].Child = 0 }), api.ErrPage)
	checked(t, "in the leaf", with(fourth, func(p *api.Page) { p.Items[0].Value = text(33) }), api.ErrValue)
	checked(t, "a key of 25", with(fourth, func(p *api.Page) { p.Items[0].Key = text(25) }), api.ErrKey)

	sixth := index(1, to("", 2), to("m", 3))
	checked(t, "an index", sixth, api.OK)
	checked(t, "of one item", with(sixth, func(p *api.Page) { p.Items = p.Items[:1] }), api.ErrForm)
	checked(t, "a key at the first", with(sixth, func(p *api.Page) { p.Items[0].Key = text(1) }), api.ErrKey)
	checked(t, "no key at the second", with(sixth, func(p *api.Page) { p.Items[1].Key = nil }), api.ErrKey)

	checked(t, "a blob of 480", blob(480, 0), api.OK)
	checked(t, "a blob of 481", blob(481, 0), api.ErrForm)
	checked(t, "a blob of none", blob(0, 0), api.ErrForm)
	checked(t, "the zero page", api.Page{}, api.ErrKind)
}

func TestP7_1Kind(t *testing.T) {
	for _, kind := range []int{0, 4, 5, -1, -2, 255, 256, 257, 258, 259, 1<<32 + 1, greatest, least, least + 1} {
		for _, p := range soundPages() {
			p.Kind = kind
			checked(t, "kind "+strconv.Itoa(kind), p, api.ErrKind)
		}
	}
	for _, p := range soundPages() {
		checked(t, "a sound page", p, api.OK)
	}
	checked(t, "Leaf", api.Page{Kind: api.Leaf, Items: leafOf(1).Items}, api.OK)
	checked(t, "Index", api.Page{Kind: api.Index, Level: 1, Items: indexOf(1, 2).Items}, api.OK)
	checked(t, "Blob", api.Page{Kind: api.Blob, Data: text(1)}, api.OK)
}

func TestP7_1Level(t *testing.T) {
	for level := -2; level <= 14; level++ {
		p := with(leafOf(1), func(p *api.Page) { p.Level = level })
		q := with(blob(1, 0), func(p *api.Page) { p.Level = level })
		want := api.ErrForm
		if level == 0 {
			want = api.OK
		}
		checked(t, "a leaf's level "+strconv.Itoa(level), p, want)
		checked(t, "a blob's level "+strconv.Itoa(level), q, want)
		want = api.ErrForm
		if level >= 1 && level <= 11 {
			want = api.OK
		}
		checked(t, "an index's level "+strconv.Itoa(level), indexOf(level, 2), want)
	}
	for _, level := range []int{256, 257, -256, -255, 1 << 32, 1<<32 + 1, greatest, least} {
		for _, p := range []api.Page{leafOf(1), indexOf(1, 2), blob(1, 0)} {
			checked(t, "level "+strconv.Itoa(level), with(p, func(p *api.Page) { p.Level = level }), api.ErrForm)
		}
	}
}

func TestP7_1HowManyItems(t *testing.T) {
	for n := range 12 {
		want := api.ErrForm
		if n >= 1 && n <= 8 {
			want = api.OK
		}
		checked(t, "a leaf of "+strconv.Itoa(n), leafOf(n), want)
		if n < 2 {
			want = api.ErrForm
		}
		checked(t, "an index of "+strconv.Itoa(n), indexOf(1, n), want)
		if n > 0 {
			checked(t, "a blob with "+strconv.Itoa(n), with(blob(1, 0), func(p *api.Page) { p.Items = leafOf(n).Items }), api.ErrForm)
		}
	}
	many := make([]api.Item, 257)
	for i := range many {
		many[i] = near(string([]byte{'a' + byte(i/26), 'a' + byte(i%26)}), "")
	}
	checked(t, "a leaf of 257", leaf(many...), api.ErrForm)
	checked(t, "a blob with an item of zeros", with(blob(1, 0), func(p *api.Page) { p.Items = make([]api.Item, 1) }), api.ErrForm)
}

func TestP7_1Data(t *testing.T) {
	for _, n := range []int{1, 2, 479, 480} {
		checked(t, "a blob of "+strconv.Itoa(n), blob(n, 0), api.OK)
	}
	for _, n := range []int{0, 481, 482, 512, 65536, 65537, 65536 + 480} {
		checked(t, "a blob of "+strconv.Itoa(n), blob(n, 0), api.ErrForm)
	}
	for _, p := range []api.Page{leafOf(1), indexOf(1, 2)} {
		checked(t, "data", with(p, func(p *api.Page) { p.Data = []byte{0} }), api.ErrForm)
		checked(t, "data", with(p, func(p *api.Page) { p.Data = text(480) }), api.ErrForm)
	}
}

func TestP7_1Next(t *testing.T) {
	for _, next := range []int{0, 1, 2, 255, 256, 65535, 65536} {
		checked(t, "Next "+strconv.Itoa(next), blob(1, next), api.OK)
		if next == 0 {
			continue
		}
		checked(t, "a leaf's Next", with(leafOf(1), func(p *api.Page) { p.Next = next }), api.ErrForm)
		checked(t, "an index's Next", with(indexOf(1, 2), func(p *api.Page) { p.Next = next }), api.ErrForm)
	}
	for _, next := range noNumbers {
		if next == 0 {
			continue
		}
		checked(t, "Next "+strconv.Itoa(next), blob(1, next), api.ErrPage)
		checked(t, "a leaf's Next", with(leafOf(1), func(p *api.Page) { p.Next = next }), api.ErrForm)
		checked(t, "an index's Next", with(indexOf(1, 2), func(p *api.Page) { p.Next = next }), api.ErrForm)
	}
}

func TestP7_1Key(t *testing.T) {
	for _, n := range []int{0, 1, 2, 23, 24, 25, 26, 255, 256, 257, 280} {
		want := api.OK
		if n == 0 || n > 24 {
			want = api.ErrKey
		}
		what := "a key of " + strconv.Itoa(n)
		checked(t, what, leaf(api.Item{Key: text(n)}), want)
		checked(t, what, leaf(near("a", ""), api.Item{Key: text(n)}), want)
		checked(t, what, index(1, to("", 1), api.Item{Key: text(n), Child: 1}), want)
		checked(t, what, index(1, to("", 1), to("a", 1), api.Item{Key: text(n), Child: 1}), want)
		want = api.OK
		if n > 0 {
			want = api.ErrKey
		}
		checked(t, what+" at the first", index(1, api.Item{Key: text(n), Child: 1}, to("z", 1)), want)
	}
	checked(t, "a first key of a byte 0", index(1, to("\x00", 1), to("z", 1)), api.ErrKey)
}

func TestP7_1Order(t *testing.T) {
	keys := []string{"\x00", "\x00\x00", "\x00\x01", "\x01", "a", "a\x00", "aa", "ab", "b", "\x7f", "\x80", "\xfe\xff", "\xff", "\xff\x00", "\xff\xff"}
	for i, a := range keys {
		for k, b := range keys {
			want := api.ErrOrder
			if i < k {
				want = api.OK
			}
			checked(t, a+" "+b, leaf(near(a, ""), near(b, "")), want)
			checked(t, a+" "+b, index(1, to("", 1), to(a, 1), to(b, 1)), want)
		}
		checked(t, a, index(1, to("", 1), to(a, 1)), api.OK)
	}
	for i := range 7 {
		swap := func(p *api.Page) { p.Items[i].Key, p.Items[i+1].Key = p.Items[i+1].Key, p.Items[i].Key }
		checked(t, "a leaf's swapped", with(leafOf(8), swap), api.ErrOrder)
		if i > 0 {
			checked(t, "an index's swapped", with(indexOf(1, 8), swap), api.ErrOrder)
		}
	}
}

func TestP7_1ValueInALeaf(t *testing.T) {
	item := func(size, bytes int) api.Page {
		it := api.Item{Key: text(1), Value: text(bytes), Size: size}
		if size > 32 {
			it.Child = 1
		}
		return leaf(it)
	}
	for size := range 40 {
		for n := range 40 {
			want := api.ErrValue
			if size <= 32 && n == size || size > 32 && n == 0 {
				want = api.OK
			}
			checked(t, "size "+strconv.Itoa(size)+", bytes "+strconv.Itoa(n), item(size, n), want)
		}
	}
	for _, size := range []int{33, 480, 481, 3839, 3840} {
		checked(t, "size "+strconv.Itoa(size), item(size, 0), api.OK)
		checked(t, "size "+strconv.Itoa(size), item(size, 1), api.ErrValue)
		checked(t, "size "+strconv.Itoa(size), item(size, size), api.ErrValue)
	}
	for _, size := range []int{-1, -2, -32, 3841, 3842, 65536, 65537, -65536, 1 << 32, 1<<32 + 1, greatest, least} {
		checked(t, "size "+strconv.Itoa(size), item(size, 0), api.ErrValue)
		checked(t, "size "+strconv.Itoa(size), item(size, 1), api.ErrValue)
	}
}

func TestP7_1ValueInAnIndex(t *testing.T) {
	for i := range 3 {
		for _, size := range []int{1, -1, 32, 33, 3840, 3841, greatest, least} {
			checked(t, "size "+strconv.Itoa(size), with(indexOf(2, 3), func(p *api.Page) { p.Items[i].Size = size }), api.ErrValue)
		}
		checked(t, "a value", with(indexOf(2, 3), func(p *api.Page) { p.Items[i].Value = []byte{0} }), api.ErrValue)
		checked(t, "a value and its size", with(indexOf(2, 3), func(p *api.Page) { p.Items[i].Value, p.Items[i].Size = text(1), 1 }), api.ErrValue)
	}
}

func TestP7_1Child(t *testing.T) {
	for _, child := range []int{1, 2, 255, 256, 65535, 65536} {
		what := "child " + strconv.Itoa(child)
		checked(t, what, leaf(far("a", 33, child)), api.OK)
		checked(t, what, leaf(far("a", 3840, child)), api.OK)
		checked(t, what, index(1, to("", child), to("a", child)), api.OK)
		for size := range 33 {
			checked(t, what, leaf(api.Item{Key: text(1), Value: text(size), Size: size, Child: child}), api.ErrPage)
		}
	}
	for _, child := range noNumbers {
		what := "child " + strconv.Itoa(child)
		checked(t, what, leaf(far("a", 33, child)), api.ErrPage)
		checked(t, what, leaf(far("a", 3840, child)), api.ErrPage)
		checked(t, what, index(1, to("", child), to("a", 1)), api.ErrPage)
		checked(t, what, index(1, to("", 1), to("a", child)), api.ErrPage)
		if child != 0 {
			checked(t, what, leaf(api.Item{Key: text(1), Value: text(1), Size: 1, Child: child}), api.ErrPage)
			checked(t, what, leaf(api.Item{Key: text(1), Child: child}), api.ErrPage)
		}
	}
}

// spoilt is a fault that is laid into a page.
type spoilt struct {
	what string
	lay  func(*api.Page)
	want api.Errno
}

// faultsOf are faults of a page of three items in the order in which they are told.
func faultsOf(kind int) []spoilt {
	list := []spoilt{
		{"kind", func(p *api.Page) { p.Kind = 4 }, api.ErrKind},
		{"level", func(p *api.Page) { p.Level = 12 }, api.ErrForm},
		{"data", func(p *api.Page) { p.Data = text(1) }, api.ErrForm},
		{"next", func(p *api.Page) { p.Next = -1 }, api.ErrForm},
		{"none", func(p *api.Page) { p.Items = nil }, api.ErrForm},
		{"many", func(p *api.Page) { p.Items = append(p.Items, leafOf(9).Items...) }, api.ErrForm},
	}
	for i := range 3 {
		at := " of item " + strconv.Itoa(i)
		key := text(25)
		key[0] = byte('a' + i)
		list = append(list, spoilt{"key" + at, func(p *api.Page) { p.Items[i].Key = key }, api.ErrKey})
		if i > 0 && !(kind == api.Index && i == 1) { // nothing stands behind the first key of an index and not above it
			list = append(list, spoilt{"order" + at, func(p *api.Page) { p.Items[i].Key = slices.Clone(p.Items[i-1].Key) }, api.ErrOrder})
		}
		list = append(list, spoilt{"size" + at, func(p *api.Page) { p.Items[i].Size = -1 }, api.ErrValue})
		list = append(list, spoilt{"child" + at, func(p *api.Page) { p.Items[i].Child = 65537 }, api.ErrPage})
	}
	return list
}

// Of two faults the first one is told, in the order in which the errors stand.
func TestP7_1TwoFaults(t *testing.T) {
	for _, p := range []api.Page{leafOf(3), leaf(far("a", 33, 1), far("b", 34, 1), far("c", 35, 1)), indexOf(3, 3)} {
		list := faultsOf(p.Kind)
		for i, a := range list {
			checked(t, a.what, with(p, a.lay), a.want)
			for _, b := range list[i+1:] {
				// An order that was spoilt may come right by another key, but a first fault stays: it is laid in last.
				both := with(with(p, b.lay), a.lay)
				checked(t, a.what+" ahead of "+b.what, both, a.want)
			}
		}
	}
}

func TestP7_1TwoFaultsOfABlob(t *testing.T) {
	list := []spoilt{
		{"kind", func(p *api.Page) { p.Kind = 0 }, api.ErrKind},
		{"level", func(p *api.Page) { p.Level = 1 }, api.ErrForm},
		{"items", func(p *api.Page) { p.Items = make([]api.Item, 1) }, api.ErrForm},
		{"sound items", func(p *api.Page) { p.Items = leafOf(1).Items }, api.ErrForm},
		{"no data", func(p *api.Page) { p.Data = nil }, api.ErrForm},
		{"much data", func(p *api.Page) { p.Data = text(481) }, api.ErrForm},
		{"next", func(p *api.Page) { p.Next = -1 }, api.ErrPage},
		{"a great next", func(p *api.Page) { p.Next = 65537 }, api.ErrPage},
	}
	for i, a := range list {
		checked(t, a.what, with(blob(1, 0), a.lay), a.want)
		for _, b := range list[i+1:] {
			checked(t, a.what+" ahead of "+b.what, with(with(blob(1, 0), b.lay), a.lay), a.want)
		}
	}
}

// Pages with any number of faults are held against the chapter's words.
func TestP7_1AnyFaults(t *testing.T) {
	r := draw.Numbers(72)
	told := map[api.Errno]int{}
	for range 60000 {
		p := somePage(&r)
		for range r.Below(4) {
			spoil(&r, &p)
		}
		want := modelCheck(p)
		told[want]++
		checked(t, "a page that was turned", p, want)
	}
	for _, e := range []api.Errno{api.OK, api.ErrKind, api.ErrForm, api.ErrKey, api.ErrOrder, api.ErrValue, api.ErrPage} {
		if told[e] < 500 {
			t.Errorf("%d was told %d times", e, told[e])
		}
	}
}

// someNumber is one at a limit or beside it.
func someNumber(r *draw.Numbers) int {
	near := []int{0, 1, 2, 8, 11, 12, 32, 33, 3840, 3841, 65535, 65536, 65537, greatest, least}
	return near[r.Below(len(near))] - r.Below(2)
}

// spoil turns one thing of a page, which may leave it sound.
func spoil(r *draw.Numbers, p *api.Page) {
	what := r.Below(16)
	if what < 10 && len(p.Items) > 0 {
		spoilItem(r, p, what)
		return
	}
	switch what {
	case 10:
		p.Kind = r.Below(6) - 1
	case 11:
		p.Level = someNumber(r)
	case 12:
		p.Next = someNumber(r)
	case 13:
		p.Data = r.Bytes([]int{0, 1, 480, 481}[r.Below(4)])
	case 14:
		p.Items = p.Items[:r.Below(len(p.Items)+1)]
	case 15:
		p.Items = append(p.Items, near(string(r.Bytes(3)), ""))
	}
}

func spoilItem(r *draw.Numbers, p *api.Page, what int) {
	i := r.Below(len(p.Items))
	it := &p.Items[i]
	switch what {
	case 0, 1:
		it.Key = r.Bytes([]int{0, 1, 24, 25}[r.Below(4)])
	case 2, 3:
		it.Key = slices.Clone(p.Items[r.Below(len(p.Items))].Key)
	case 4, 5:
		it.Value = r.Bytes([]int{0, 1, 32, 33}[r.Below(4)])
	case 6, 7:
		it.Size = someNumber(r)
	default:
		it.Child = someNumber(r)
	}
}

// nil and an empty list mean the same, wherever one stands.
func TestR3Check(t *testing.T) {
	for _, l := range [][]byte{nil, {}, make([]byte, 0, 9)} {
		for _, items := range [][]api.Item{nil, {}, make([]api.Item, 0, 9)} {
			checked(t, "a leaf", api.Page{Kind: 1, Items: []api.Item{{Key: text(1), Value: l}}, Data: l}, api.OK)
			checked(t, "a leaf with a long value", api.Page{Kind: 1, Items: []api.Item{{Key: text(1), Value: l, Size: 33, Child: 1}}, Data: l}, api.OK)
			checked(t, "a leaf without a key", api.Page{Kind: 1, Items: []api.Item{{Key: l}}}, api.ErrKey)
			checked(t, "a leaf without a value", api.Page{Kind: 1, Items: []api.Item{{Key: text(1), Value: l, Size: 1}}}, api.ErrValue)
			checked(t, "a leaf without items", api.Page{Kind: 1, Items: items, Data: l}, api.ErrForm)
			checked(t, "an index", api.Page{Kind: 2, Level: 1, Items: []api.Item{{Key: l, Value: l, Child: 1}, {Key: text(1), Value: l, Child: 1}}, Data: l}, api.OK)
			checked(t, "an index without a key", api.Page{Kind: 2, Level: 1, Items: []api.Item{{Child: 1}, {Key: l, Child: 1}}}, api.ErrKey)
			checked(t, "an index without items", api.Page{Kind: 2, Level: 1, Items: items}, api.ErrForm)
			checked(t, "a blob", api.Page{Kind: 3, Data: text(1), Items: items}, api.OK)
			checked(t, "a blob without data", api.Page{Kind: 3, Data: l, Items: items}, api.ErrForm)
			checked(t, "no page", api.Page{Data: l, Items: items}, api.ErrKind)
		}
	}
}
