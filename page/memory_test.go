package page_test

import (
	"bytes"
	"slices"
	"testing"

	"coppice/api"
	"coppice/page"
)

// mark fills the spare room of lists.
const mark = 0xC3

// room is the list with spare room behind it, all of it marked.
func room(b []byte) []byte {
	all := append(slices.Clone(b), bytes.Repeat([]byte{mark}, 40)...)
	return all[:len(b)]
}

// markedItem stands in the spare room of lists of items.
func markedItem() api.Item {
	return api.Item{Key: []byte("zz"), Value: []byte("zz"), Size: 2, Child: 99}
}

// roomy is the page with spare room behind each of its lists.
func roomy(p api.Page) api.Page {
	items := slices.Clone(p.Items)
	for i := range items {
		items[i].Key, items[i].Value = room(items[i].Key), room(items[i].Value)
	}
	all := append(items, markedItem(), markedItem())
	p.Items, p.Data = all[:len(p.Items)], room(p.Data)
	return p
}

// marked: is the spare room of a list as it was?
func marked(b []byte) bool {
	return bytes.Equal(b[len(b):len(b)+40], bytes.Repeat([]byte{mark}, 40))
}

// untouched: are the page and all of its spare room as they were?
func untouched(p, was api.Page) bool {
	same := samePages(p, was) && marked(p.Data)
	for _, it := range p.Items {
		same = same && marked(it.Key) && marked(it.Value)
	}
	for _, it := range p.Items[len(p.Items) : len(p.Items)+2] {
		same = same && sameItems(it, markedItem())
	}
	return same
}

// spoilPage turns all that a page has, its spare room too.
func spoilPage(p api.Page) {
	for _, it := range p.Items[:cap(p.Items)] {
		spoilBytes(it.Key)
		spoilBytes(it.Value)
	}
	clear(p.Items[:cap(p.Items)])
	spoilBytes(p.Data)
}

func spoilBytes(b []byte) {
	b = b[:cap(b)]
	for i := range b {
		b[i] ^= 0xA5
	}
}

// manyPages are sound ones and such that are refused.
func manyPages() []api.Page {
	return append(soundPages(), api.Page{}, leafOf(9), leaf(near("b", "x"), near("a", "y")), leaf(far("", 33, 1)), index(1, to("a", 1), to("b", 1)), blob(481, 0), blob(9, -1),
		api.Page{Kind: 9, Items: leafOf(2).Items, Data: text(3)})
}

func TestR4Pages(t *testing.T) {
	for _, p := range manyPages() {
		q := roomy(p)
		check, kids := page.Check(q), page.Kids(q)
		b, e := page.Encode(3, 4, q)
		if !untouched(q, p) {
			t.Fatalf("%v was changed", p)
		}
		if check != page.Check(p) || e != check {
			t.Fatalf("%v: spare room is seen in %d or %d", p, check, e)
		}
		spoilPage(q)
		if want := page.Kids(p); !slices.Equal(kids, want) {
			t.Fatalf("%v: Kids shares memory: %v, want %v", p, kids, want)
		}
		if e == api.OK && !bytes.Equal(b, sealed(modelBytes(3, 4, p))) {
			t.Fatalf("%v: Encode shares memory", p)
		}
	}
}

func TestR4Blocks(t *testing.T) {
	for _, p := range soundPages() {
		b := sealed(modelBytes(3, 4, p))
		for _, c := range []struct {
			no   int
			b    []byte
			want api.Errno
		}{{3, b, api.OK}, {4, b, api.ErrOther}, {0, b, api.ErrPage}, {3, b[:511], api.ErrBlock}, {3, turned(b, 9, 1), api.ErrSum}, {3, sealed(turned(b[:508], 7, 1)), api.ErrForm}} {
			in := room(c.b)
			q, _, e := page.Decode(c.no, in)
			if e != c.want || !bytes.Equal(in, c.b) || !marked(in) {
				t.Fatalf("Decode of %v: %d, want %d, or what was handed in is changed", p, e, c.want)
			}
			spoilBytes(in)
			if e == api.OK && !samePages(p, q) {
				t.Fatalf("%v: Decode shares memory with what was handed in", p)
			}
		}
	}
}

func TestR4TwoAnswers(t *testing.T) {
	for _, p := range soundPages() {
		a, c := encoded(t, 3, 4, p), encoded(t, 3, 4, p)
		spoilBytes(a)
		if !bytes.Equal(c, sealed(modelBytes(3, 4, p))) {
			t.Fatalf("%v: two blocks share memory", p)
		}
		q, _, _ := page.Decode(3, c)
		s, _, _ := page.Decode(3, c)
		spoilPage(q)
		if !samePages(p, s) {
			t.Fatalf("%v: two pages share memory", p)
		}
		decodes(t, "behind a page that was turned", 3, c, p, 4)
		k, l := page.Kids(p), page.Kids(p)
		want := slices.Clone(l)
		k = k[:cap(k)]
		for i := range k {
			k[i] = -5
		}
		if !slices.Equal(l, want) {
			t.Fatalf("%v: two lists of kids share memory", p)
		}
	}
}

// lists are all lists of bytes of a page, each with its spare room.
func lists(p api.Page) [][]byte {
	all := [][]byte{p.Data[:cap(p.Data)]}
	for _, it := range p.Items {
		all = append(all, it.Key[:cap(it.Key)], it.Value[:cap(it.Value)])
	}
	return all
}

// No two lists of one page share memory, not even in their spare room.
func TestR4ListsOfOnePage(t *testing.T) {
	for _, p := range soundPages() {
		q, _, e := page.Decode(3, encoded(t, 3, 4, p))
		if e != api.OK {
			t.Fatalf("Decode: %d", e)
		}
		var before [][]byte
		for _, l := range lists(q) {
			before = append(before, slices.Clone(l))
		}
		for i, turn := range lists(q) {
			spoilBytes(turn)
			for k, l := range lists(q) {
				if k != i && !bytes.Equal(l, before[k]) {
					t.Fatalf("%v: lists %d and %d share memory", p, i, k)
				}
			}
			spoilBytes(turn)
		}
	}
}
