package node_test

import (
	"bytes"
	"fmt"
	"slices"
	"strings"
	"testing"

	"coppice/api"
	"coppice/draw"
	"coppice/node"
	pages "coppice/page"
	"coppice/span"
)

// fit is P12.7's word for neighbours.
func fit(a pair) bool {
	if pages.Check(a.left) != 0 || pages.Check(a.right) != 0 || !meant(a.left.Kind) || a.left.Kind != a.right.Kind || a.left.Level != a.right.Level {
		return false
	}
	if len(a.sep) < 1 || len(a.sep) > maxKey || bytes.Compare(a.sep, a.left.Items[len(a.left.Items)-1].Key) <= 0 {
		return false
	}
	if a.left.Kind == leafKind {
		return bytes.Compare(a.sep, a.right.Items[0].Key) <= 0
	}
	return bytes.Compare(a.sep, a.right.Items[1].Key) < 0
}

// risingKeys is n keys, rising, no two alike.
func risingKeys(r *draw.Numbers, n int) []string {
	found := map[string]int{}
	for len(found) < n {
		found[anyKey(r)] = 0
	}
	l := make([]string, 0, n)
	for k := range found {
		l = append(l, k)
	}
	slices.Sort(l)
	return l
}

// numbered is the page with each item one that is told from all others by its Child,
// and of a leaf by its value's size.
func numbered(p api.Page, from int) api.Page {
	for n := range p.Items {
		i := &p.Items[n]
		*i = api.Item{Key: i.Key, Child: 1 + from + n}
		if p.Kind == leafKind {
			i.Size = 33 + from + n
		}
	}
	return p
}

// somePair is neighbours that fit, of any numbers of items.
func somePair(r *draw.Numbers) pair {
	l, n := 1+r.Below(most), 1+r.Below(most)
	if r.Below(2) == 0 {
		k := risingKeys(r, l+n)
		a := pair{left: numbered(leaf(k[:l]...), 0), right: numbered(leaf(k[l:]...), 20), ok: true}
		a.sep, _ = span.Between([]byte(k[l-1]), []byte(k[l]))
		if r.Below(3) == 0 {
			a.sep = []byte(k[l])
		}
		return a
	}
	l, n = max(l, 2), max(n, 2)
	k := risingKeys(r, l+n-1)
	level := 1 + r.Below(11)
	left := page(indexKind, level, append([]string{"-"}, k[:l-1]...)...)
	right := page(indexKind, level, append([]string{"-"}, k[l:]...)...)
	return pair{numbered(left, 0), numbered(right, 20), []byte(k[l-1]), true}
}

// The halves of a page that page.Check takes fit, and are the page again when they
// are joined.
func TestP12_7Halves(t *testing.T) {
	r := draw.Numbers(127)
	for range 5000 {
		for _, p := range []api.Page{leaf(risingKeys(&r, most)...), index(append([]string{"-"}, risingKeys(&r, most-1)...)...)} {
			p = numbered(p, r.Below(100))
			equal(t, "a page that Check takes", pages.Check(p), 0)
			a := split(p)
			if !a.ok || !fit(a) {
				t.Fatalf("the halves of %s do not fit: %s", text(p), a.text())
			}
			back, ok := node.Join(a.left, a.right, a.sep)
			one(t, "Join of the halves", back, ok, p, true)
		}
	}
}

// Halves of pages that Check refuses are the page again too.
func TestP12_7HalvesOfAnyPage(t *testing.T) {
	r, splits := draw.Numbers(128), 0
	for range 60000 {
		p := anyPage(&r)
		a := split(p)
		if !a.ok {
			continue
		}
		splits++
		back, ok := node.Join(a.left, a.right, a.sep)
		one(t, "Join of the halves", back, ok, p, true)
	}
	if splits < 500 {
		t.Fatalf("too few splits: %d", splits)
	}
}

// lendsBack lends there and back, and tells whether there was something to lend.
func lendsBack(t *testing.T, a pair, toRight bool) bool {
	t.Helper()
	b := lend(a.left, a.right, string(a.sep), toRight)
	gives, other := len(a.right.Items), len(a.left.Items)
	if toRight {
		gives, other = other, gives
	}
	equal(t, "it lends: "+a.text(), b.ok, gives >= 2 && other < most)
	if !b.ok || a.left.Kind == indexKind && gives < 3 {
		return false
	}
	if !fit(b) {
		t.Fatalf("what is lent does not fit: %s, of %s", b.text(), a.text())
	}
	back := lend(b.left, b.right, string(b.sep), !toRight)
	want := a
	if a.left.Kind == leafKind {
		want.sep, _ = span.Between(a.left.Items[len(a.left.Items)-1].Key, a.right.Items[0].Key)
	}
	two(t, "lent there and back", back, want)
	return true
}

func TestP12_7Lend(t *testing.T) {
	r := draw.Numbers(129)
	lent := map[string]int{}
	for range 20000 {
		a := somePair(&r)
		if !fit(a) {
			t.Fatalf("these do not fit: %s", a.text())
		}
		for _, toRight := range []bool{false, true} {
			if lendsBack(t, a, toRight) {
				lent[fmt.Sprint(a.left.Kind, toRight)]++
			}
		}
	}
	for _, what := range []string{"1 false", "1 true", "2 false", "2 true"} {
		if lent[what] < 1000 {
			t.Fatalf("too few were lent: %v", lent)
		}
	}
}

// A giving index of two items lends too; but what is left of it is no page.
func TestP12_7GivingTwo(t *testing.T) {
	left, right := index("-", "b"), index("-", "x")
	a := lend(left, right, "m", true)
	two(t, "to the right", a, pair{of(left, left.Items[0]), of(right, keyed(left.Items[1], ""), keyed(right.Items[0], "m"), right.Items[1]), []byte("b"), true})
	a = lend(left, right, "m", false)
	two(t, "to the left", a, pair{of(left, left.Items[0], left.Items[1], keyed(right.Items[0], "m")), of(right, keyed(right.Items[1], "")), []byte("x"), true})
}

// Where neighbours that fit are joined, page.Check takes the page.
func TestP12_7Join(t *testing.T) {
	r, joins := draw.Numbers(130), map[int]int{}
	for range 20000 {
		a := somePair(&r)
		p, ok := node.Join(a.left, a.right, a.sep)
		equal(t, "it joins", ok, len(a.left.Items)+len(a.right.Items) <= most)
		if ok {
			joins[p.Kind]++
			equal(t, "Check of "+text(p), pages.Check(p), 0)
		}
	}
	if joins[leafKind] < 1000 || joins[indexKind] < 1000 {
		t.Fatalf("too few joins: %v", joins)
	}
}

// things is all items of pages in their order, without the Keys of indexes.
func things(l ...api.Page) string {
	s := ""
	for _, p := range l {
		for _, i := range p.Items {
			if p.Kind == indexKind {
				i.Key = nil
			}
			s += " " + itemText(i)
		}
	}
	return s
}

// No item is lost, doubled or turned, on any pages.
func TestP12_7NoItemIsLost(t *testing.T) {
	r, met := draw.Numbers(131), 0
	for range 40000 {
		p, q := anyPage(&r), anyPage(&r)
		q.Kind, q.Level = p.Kind, p.Level
		if a := split(p); a.ok {
			equal(t, "split", things(a.left, a.right), things(p))
			met++
		}
		if j, ok := node.Join(p, q, []byte("m")); ok {
			equal(t, "joined", things(j), things(p, q))
			met++
		}
		for _, toRight := range []bool{false, true} {
			if a := lend(p, q, "m", toRight); a.ok {
				equal(t, "lent", things(a.left, a.right), things(p, q))
				met++
			}
		}
	}
	if met < 2000 {
		t.Fatalf("too few were met: %d", met)
	}
}

// way is to what a key leads in a page: of a leaf its item, if it is there; of an
// index the Child.
func way(p api.Page, key []byte) string {
	if p.Kind == indexKind {
		return fmt.Sprint("child ", p.Items[node.Route(p, key)].Child)
	}
	if at, there := node.Search(p, key); there {
		return itemText(p.Items[at])
	}
	return "none"
}

// way is to what a key leads in the neighbour in whose range it lies.
func (a pair) way(key []byte) string {
	if bytes.Compare(key, a.sep) < 0 {
		return way(a.left, key)
	}
	return way(a.right, key)
}

// nearKeys is keys at, just below and just above all Keys and the separator, and some
// others.
func nearKeys(r *draw.Numbers, a pair) [][]byte {
	l := [][]byte{{0}, bytes.Repeat([]byte{0xFF}, maxKey), []byte(shortKey(r)), []byte(anyKey(r))}
	about := [][]byte{a.sep}
	for _, i := range append(slices.Clone(a.left.Items), a.right.Items...) {
		about = append(about, i.Key)
	}
	for _, k := range about {
		if len(k) == 0 {
			continue
		}
		l = append(l, k, span.Next(k), k[:max(1, len(k)-1)])
		below := slices.Clone(k)
		if below[len(k)-1] > 0 {
			below[len(k)-1]--
			l = append(l, below, slices.Concat(below, bytes.Repeat([]byte{0xFF}, maxKey-len(k))))
		}
	}
	return slices.DeleteFunc(l, func(k []byte) bool { return len(k) == 0 })
}

func TestP12_8TheWayIsTheSame(t *testing.T) {
	r := draw.Numbers(132)
	for range 6000 {
		a := somePair(&r)
		near := nearKeys(&r, a)
		joined, isJoined := node.Join(a.left, a.right, a.sep)
		lent := []pair{}
		for _, toRight := range []bool{false, true} {
			if b := lend(a.left, a.right, string(a.sep), toRight); b.ok {
				lent = append(lent, b)
				if len(b.sep) < 1 || len(b.sep) > maxKey {
					t.Fatalf("%x is no key", b.sep)
				}
			}
		}
		for _, k := range near {
			want := a.way(k)
			if isJoined && way(joined, k) != want {
				t.Fatalf("%x in the joined one of %s: %s, want %s", k, a.text(), way(joined, k), want)
			}
			for _, b := range lent {
				if b.way(k) != want {
					t.Fatalf("%x in %s, lent of %s: %s, want %s", k, b.text(), a.text(), b.way(k), want)
				}
			}
		}
	}
}

// The same for the halves of a page: each key leads from them to what it led to.
func TestP12_8Halves(t *testing.T) {
	r := draw.Numbers(133)
	for range 2000 {
		for _, p := range []api.Page{leaf(risingKeys(&r, most)...), index(append([]string{"-"}, risingKeys(&r, most-1)...)...)} {
			p = numbered(p, 0)
			a := split(p)
			equal(t, "it splits", a.ok && len(a.sep) >= 1 && len(a.sep) <= maxKey, true)
			for _, k := range nearKeys(&r, a) {
				equal(t, fmt.Sprintf("%x in the halves of %s", k, text(p)), a.way(k), way(p, k))
			}
		}
	}
}

// The greatest keys that there are.
func TestP12_8LongKeys(t *testing.T) {
	long := strings.Repeat("\xff", maxKey-1)
	var k []string
	for i := range most {
		k = append(k, long+string([]byte{byte(0xF8 + i)}))
	}
	for _, p := range []api.Page{numbered(leaf(k...), 0), numbered(index(append([]string{"-"}, k[1:]...)...), 0)} {
		a := split(p)
		equal(t, "the halves fit", a.ok && fit(a), true)
		equal(t, "the separator", string(a.sep), k[4])
		for _, key := range k {
			equal(t, fmt.Sprintf("%x", key), a.way([]byte(key)), way(p, []byte(key)))
		}
		for _, toRight := range []bool{false, true} {
			equal(t, "it lends", lendsBack(t, a, toRight), true)
		}
	}
}
