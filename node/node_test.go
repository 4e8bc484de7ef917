package node_test

import (
	"bytes"
	"fmt"
	"strings"
	"testing"

	"coppice/api"
	"coppice/draw"
	"coppice/node"
)

func search(t *testing.T, p api.Page, key string, at int, there bool) {
	t.Helper()
	if a, h := node.Search(p, []byte(key)); a != at || h != there {
		t.Fatalf("Search(%s, %q) = %d, %v; want %d, %v", text(p), key, a, h, at, there)
	}
}

func route(t *testing.T, p api.Page, key string, at int) {
	t.Helper()
	if a := node.Route(p, []byte(key)); a != at {
		t.Fatalf("Route(%s, %q) = %d; want %d", text(p), key, a, at)
	}
}

func TestExamplesOfSearchAndRoute(t *testing.T) {
	search(t, leaf("a", "c", "e"), "c", 1, true)
	search(t, leaf("a", "c", "e"), "d", 2, false)
	search(t, leaf("a", "c", "e"), "z", 3, false)
	search(t, leaf(), "a", 0, false)
	search(t, api.Page{}, "a", 0, false)
	for key, at := range map[string]int{"f": 0, "g": 1, "o": 1, "zz": 2} {
		route(t, index("-", "g", "p"), key, at)
	}
	route(t, index("-"), "a", 0)
	route(t, index(), "a", 0)
}

func TestExamplesOfOneItem(t *testing.T) {
	b := api.Item{Key: []byte("b"), Value: []byte("xy"), Size: 2}
	full := leaf("c", "d", "e", "f", "g", "h", "i", "j")
	for _, c := range []struct {
		what string
		call func() (api.Page, bool)
		want string
		ok   bool
	}{
		{"Insert([a c], 1, b)", func() (api.Page, bool) { return node.Insert(leaf("a", "c"), 1, b) }, "a b c", true},
		{"Insert([a c], 3, b)", func() (api.Page, bool) { return node.Insert(leaf("a", "c"), 3, b) }, "", false},
		{"Insert(eight items, 0, b)", func() (api.Page, bool) { return node.Insert(full, 0, b) }, "", false},
		{"Replace([a c], 1, b)", func() (api.Page, bool) { return node.Replace(leaf("a", "c"), 1, b) }, "a b", true},
		{"Replace([a c], 2, b)", func() (api.Page, bool) { return node.Replace(leaf("a", "c"), 2, b) }, "", false},
		{"Remove([a c], 0)", func() (api.Page, bool) { return node.Remove(leaf("a", "c"), 0) }, "c", true},
		{"Remove(none, 0)", func() (api.Page, bool) { return node.Remove(leaf(), 0) }, "", false},
	} {
		p, ok := c.call()
		equal(t, c.what, fmt.Sprint(keys(p), ok), fmt.Sprint(c.want, c.ok))
	}
}

// Keys ahead of, at, between and behind all items; what else a page is does not
// matter.
func TestP12_1Search(t *testing.T) {
	for _, kind := range kinds {
		for _, p := range []api.Page{page(kind, 0, "b", "ba", "d"), odd(page(kind, 3, "b", "ba", "d"))} {
			for n, key := range []string{"a", "b", "b\x00", "ba", "ba\x00", "d", "e"} {
				search(t, p, key, []int{0, 0, 1, 1, 2, 2, 3}[n], n%2 == 1)
			}
			search(t, p, "", 0, false)
			search(t, p, "\xff", 3, false)
			search(t, p, strings.Repeat("b", 100), 2, false)
		}
		for key, at := range map[string]int{"": 0, "a": 0, "b": 0, "c": 1} {
			search(t, page(kind, 0, "b"), key, at, key == "b")
		}
		search(t, page(kind, 0), "", 0, false)
		search(t, page(kind, 0), "b", 0, false)
	}
	search(t, leaf("a", "-"), "", 0, false)
	search(t, leaf("-", "a"), "", 0, true)
	equal(t, "no key", fmt.Sprint(node.Search(leaf("-"), nil)), "0 true")
}

// Where keys do not rise it is the first that is not below the key; where they
// stand there twice, the first of both.
func TestP12_1NoOrder(t *testing.T) {
	for _, c := range []struct {
		keys string
		key  string
		at   int
		has  bool
	}{
		{"c a b", "b", 0, false}, {"c a b", "c", 0, true}, {"c a b", "d", 3, false}, {"a c b", "b", 1, false},
		{"a d b c e", "c", 1, false}, {"a d b c e", "e", 4, true}, {"a a a", "a", 0, true}, {"a b b c", "b", 1, true},
		{"b a", "a", 0, false}, {"a b c d e f g a h", "h", 8, true}, {"z a b c d e f g h", "h", 0, false},
		{"a b c d e f g h i j", "j", 9, true},
	} {
		search(t, leaf(strings.Fields(c.keys)...), c.key, c.at, c.has)
		search(t, index(strings.Fields(c.keys)...), c.key, c.at, c.has)
	}
}

func TestP12_2Route(t *testing.T) {
	for _, kind := range kinds {
		for _, p := range []api.Page{page(kind, 1, "-", "b", "ba", "d"), odd(page(kind, 0, "zz", "b", "ba", "d"))} {
			for n, key := range []string{"a", "b", "b\x00", "ba", "ba\x00", "d", "e"} {
				route(t, p, key, []int{0, 1, 1, 2, 2, 3, 3}[n])
			}
			route(t, p, "", 0)
			route(t, p, "\xff", 3)
			route(t, p, strings.Repeat("b", 100), 2)
		}
		for _, key := range []string{"", "a", "b", "c"} {
			route(t, page(kind, 1), key, 0)
			route(t, page(kind, 1, "b"), key, 0)
			route(t, page(kind, 1, "-"), key, 0)
		}
		route(t, page(kind, 1, "a", "b"), "a", 0)
		route(t, page(kind, 1, "a", "b"), "b", 1)
		equal(t, "no key", node.Route(page(kind, 1, "-", "-", "-"), nil), 2)
	}
	equal(t, "no page", node.Route(api.Page{}, nil), 0)
}

func TestP12_2NoOrder(t *testing.T) {
	for _, c := range []struct {
		keys, key string
		at        int
	}{
		{"- c a b", "b", 0}, {"- c a b", "c", 3}, {"- a c b", "b", 1}, {"- a a a", "a", 3}, {"- a b b c", "b", 3},
		{"z a b c", "b", 2}, {"- b b c", "a", 0}, {"- a d b c e", "c", 1}, {"- a b c d e f g h i j", "j", 10},
		{"- z a b c d e f g h i", "i", 0},
	} {
		route(t, index(strings.Fields(c.keys)...), c.key, c.at)
		route(t, leaf(strings.Fields(c.keys)...), c.key, c.at)
	}
}

// Both are held against their words, on pages of all kinds.
func TestP12_1And2Random(t *testing.T) {
	r := draw.Numbers(121)
	for range 20000 {
		p, key := anyPage(&r), []string{shortKey(&r), anyKey(&r), ""}[r.Below(3)]
		at := 0
		for at < len(p.Items) && bytes.Compare(p.Items[at].Key, []byte(key)) < 0 {
			at++
		}
		search(t, p, key, at, at < len(p.Items) && string(p.Items[at].Key) == key)
		way := 0
		for n := 1; n < len(p.Items) && bytes.Compare(p.Items[n].Key, []byte(key)) <= 0; n++ {
			way = n
		}
		route(t, p, key, way)
	}
}

// places are those from below 0 to beyond the last one.
func places(n int) []int {
	l := []int{smallest, -2, n + 2, n + 8, greatest}
	for at := -1; at <= n+1; at++ {
		l = append(l, at)
	}
	return l
}

// onEach holds the three calls at each place of a page against their words.
func onEach(t *testing.T, p api.Page, i api.Item) {
	t.Helper()
	n := len(p.Items)
	for _, at := range places(n) {
		what := fmt.Sprintf("%s at %d", text(p), at)
		ahead, here := at >= 0 && at <= n, at >= 0 && at < n
		var put, other, without []api.Item
		for k, x := range p.Items {
			if k == at {
				put = append(put, i, x)
				other = append(other, i)
				continue
			}
			put, other, without = append(put, x), append(other, x), append(without, x)
		}
		if at == n {
			put = append(put, i)
		}
		got, ok := node.Insert(p, at, i)
		one(t, "Insert: "+what, got, ok, of(p, put...), ahead && n < most)
		got, ok = node.Replace(p, at, i)
		one(t, "Replace: "+what, got, ok, of(p, other...), here)
		got, ok = node.Remove(p, at)
		one(t, "Remove: "+what, got, ok, of(p, without...), here)
	}
}

func TestP12_3EachPlace(t *testing.T) {
	for _, i := range []api.Item{
		{}, {Key: []byte("k001"), Value: []byte("new"), Size: 3}, {Key: []byte("zz"), Size: 40, Child: 9},
		{Key: bytes.Repeat([]byte("k"), 100), Value: bytes.Repeat([]byte("v"), 5000), Size: -1, Child: smallest},
	} {
		for _, kind := range kinds {
			for n := range most + 4 {
				onEach(t, some(kind, n), i)
				onEach(t, odd(some(kind, n)), i)
			}
		}
	}
}

func TestP12_3Random(t *testing.T) {
	r := draw.Numbers(123)
	for range 3000 {
		onEach(t, anyPage(&r), api.Item{Key: []byte(anyKey(&r)), Value: r.Bytes(r.Below(40)), Child: r.Below(9), Size: r.Below(99)})
	}
}

// What was put in is found there and taken out again, and all is as it was.
func TestP12_3ThereAndBack(t *testing.T) {
	for n := range most {
		p := odd(some(leafKind, n))
		for at := range n + 1 {
			i := api.Item{Key: []byte("new"), Child: 4}
			with, ok := node.Insert(p, at, i)
			equal(t, "Insert", ok, true)
			equal(t, "the item", itemText(with.Items[at]), itemText(i))
			back, ok := node.Remove(with, at)
			one(t, "Remove", back, ok, p, true)
		}
	}
}
