package node_test

import (
	"fmt"
	"slices"
	"strings"
	"testing"

	"coppice/api"
	"coppice/draw"
	"coppice/node"
)

// The calls have just these types.
var (
	_ func(api.Page, []byte) (int, bool)                                        = node.Search
	_ func(api.Page, []byte) int                                                = node.Route
	_ func(api.Page, int, api.Item) (api.Page, bool)                            = node.Insert
	_ func(api.Page, int, api.Item) (api.Page, bool)                            = node.Replace
	_ func(api.Page, int) (api.Page, bool)                                      = node.Remove
	_ func(api.Page) (api.Page, api.Page, []byte, bool)                         = node.Split
	_ func(api.Page, api.Page, []byte) (api.Page, bool)                         = node.Join
	_ func(api.Page, api.Page, []byte, bool) (api.Page, api.Page, []byte, bool) = node.Lend
)

// The numbers that the document names, as it names them.
const (
	smallest, greatest            = -9223372036854775808, 9223372036854775807
	leafKind, indexKind, blobKind = 1, 2, 3
	least, most, maxKey           = 4, 8, 24
)

// kinds are those that there are, and numbers that are none.
var kinds = []int{leafKind, indexKind, blobKind, 0, 4, -1, 257, smallest, greatest}

// meant: is it a kind that is meant?
func meant(kind int) bool { return kind == 1 || kind == 2 }

// filled gives each item what tells it from all others, and fits its kind.
func filled(p api.Page, seed int) api.Page {
	for n := range p.Items {
		i := &p.Items[n]
		switch {
		case p.Kind != leafKind:
			i.Child = 1 + seed + n
		case (seed+n)%3 == 0:
			i.Size, i.Child = 33+n, 1+seed+n
		default:
			i.Value = fmt.Appendf(nil, "v%d", seed+n)
			i.Size = len(i.Value)
		}
	}
	return p
}

// leaf is a leaf with these keys.
func leaf(keys ...string) api.Page { return page(leafKind, 0, keys...) }

// index is an index of the level 1 with these Keys; - stands for the empty one.
func index(keys ...string) api.Page { return page(indexKind, 1, keys...) }

// page is a page with items of these Keys, all else of them by the first of them.
func page(kind, level int, keys ...string) api.Page {
	p := api.Page{Kind: kind, Level: level}
	seed := 0
	for _, k := range keys {
		if k == "-" {
			k = ""
		}
		seed += len(k)
		p.Items = append(p.Items, api.Item{Key: []byte(k)})
	}
	if len(keys) > 0 && len(p.Items[0].Key) > 0 {
		seed += 100 * int(p.Items[0].Key[0])
	}
	return filled(p, seed)
}

// some is a page of a kind with n items whose keys rise.
func some(kind, n int) api.Page {
	keys := []string{}
	for i := range n {
		keys = append(keys, fmt.Sprintf("k%03d", i))
	}
	return page(kind, 0, keys...)
}

// odd is the page with what no leaf and no index has, but what must stay.
func odd(p api.Page) api.Page {
	p.Level, p.Data, p.Next = -7, []byte("data"), 77
	for n := range p.Items {
		p.Items[n].Child, p.Items[n].Size, p.Items[n].Value = -n, 5000+n, []byte{byte(n)}
	}
	return p
}

// keys is the Keys of a page as the chapter writes them.
func keys(p api.Page) string {
	var l []string
	for _, i := range p.Items {
		l = append(l, string(i.Key))
		if len(i.Key) == 0 {
			l[len(l)-1] = "-"
		}
	}
	return strings.Join(l, " ")
}

// text is all of a page; nil and an empty list are the same there.
func text(p api.Page) string {
	var s strings.Builder
	fmt.Fprintf(&s, "%d/%d %x>%d", p.Kind, p.Level, p.Data, p.Next)
	for _, i := range p.Items {
		fmt.Fprintf(&s, " %s", itemText(i))
	}
	return s.String()
}

func itemText(i api.Item) string {
	return fmt.Sprintf("%x=%x>%d#%d", i.Key, i.Value, i.Child, i.Size)
}

// zero is the text of the page that comes with false.
var zero = text(api.Page{})

// copyOf is the page in memory of its own.
func copyOf(p api.Page) api.Page {
	p.Data, p.Items = slices.Clone(p.Data), slices.Clone(p.Items)
	for n := range p.Items {
		i := &p.Items[n]
		i.Key, i.Value = slices.Clone(i.Key), slices.Clone(i.Value)
	}
	return p
}

// of is the page with these items in the place of its own.
func of(p api.Page, items ...api.Item) api.Page {
	p = copyOf(p)
	p.Items = copyOf(api.Page{Items: items}).Items
	return p
}

// keyed is the item with another Key.
func keyed(i api.Item, key string) api.Item {
	i.Key = []byte(key)
	return i
}

// equal holds an answer against what is wanted.
func equal[T comparable](t *testing.T, what string, got, want T) {
	t.Helper()
	if got != want {
		t.Fatalf("%s: %v, want %v", what, got, want)
	}
}

// one holds an answer of a page against what is wanted; with false it is the zero one.
func one(t *testing.T, what string, got api.Page, ok bool, want api.Page, wantOk bool) {
	t.Helper()
	if !wantOk {
		want = api.Page{}
	}
	if ok != wantOk || text(got) != text(want) {
		t.Fatalf("%s: %s, %v; want %s, %v", what, text(got), ok, text(want), wantOk)
	}
}

// pair is two pages and what is between them.
type pair struct {
	left, right api.Page
	sep         []byte
	ok          bool
}

func (p pair) text() string {
	return fmt.Sprintf("%s | %x | %s | %v", text(p.left), p.sep, text(p.right), p.ok)
}

func split(p api.Page) (a pair) {
	a.left, a.right, a.sep, a.ok = node.Split(p)
	return a
}

func lend(l, r api.Page, sep string, toRight bool) (a pair) {
	a.left, a.right, a.sep, a.ok = node.Lend(l, r, []byte(sep), toRight)
	return a
}

// two holds an answer of two pages against what is wanted.
func two(t *testing.T, what string, got, want pair) {
	t.Helper()
	if !want.ok {
		want = pair{}
	}
	if got.text() != want.text() {
		t.Fatalf("%s:\n%s, want\n%s", what, got.text(), want.text())
	}
}

// shortKey is a key of few letters, so that keys often are alike or begin alike.
func shortKey(r *draw.Numbers) string {
	b := make([]byte, 1+r.Below(3))
	for i := range b {
		b[i] = "abc"[r.Below(3)]
	}
	return string(b)
}

// anyKey is a key of any kind: short, of any bytes, or as long as one can be.
func anyKey(r *draw.Numbers) string {
	switch r.Below(4) {
	case 0:
		// A - alone stands for no byte, where pages are made.
		return strings.Replace(string(r.Bytes(1+r.Below(maxKey))), "-", "+", 1)
	case 1:
		return strings.Repeat("x", maxKey-1) + shortKey(r)[:1]
	}
	return shortKey(r)
}

// anyPage is a page of any kind with any items, in order or not.
func anyPage(r *draw.Numbers) api.Page {
	var l []string
	for range r.Below(most + 3) {
		l = append(l, []string{shortKey(r), anyKey(r), "-"}[r.Below(3)])
	}
	if r.Below(2) == 0 {
		slices.Sort(l)
	}
	p := page(kinds[r.Below(len(kinds))], r.Below(3), l...)
	if r.Below(4) == 0 {
		p = odd(p)
	}
	return p
}
