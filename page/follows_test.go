package page_test

import (
	"bytes"
	"slices"
	"strconv"
	"sync"
	"testing"

	"coppice/api"
	"coppice/draw"
	"coppice/page"
)

// leads holds Kids against what it must answer.
func leads(t *testing.T, what string, p api.Page, want ...int) {
	t.Helper()
	if got := page.Kids(p); !slices.Equal(got, want) {
		t.Errorf("%s: Kids = %v, want %v", what, got, want)
	}
}

func TestExamplesOfKids(t *testing.T) {
	leads(t, "the first page", leaf(near("a", "x")))
	leads(t, "the fourth page", leaf(far("a", 33, 7)), 7)
	leads(t, "the sixth page", index(1, to("", 2), to("m", 3)), 2, 3)
}

func TestP7_4Kids(t *testing.T) {
	leads(t, "a leaf", leaf(far("a", 33, 9), near("b", "x"), far("c", 480, 2), near("d", ""), far("e", 99, 9)), 9, 2, 9)
	leads(t, "an index", index(3, to("", 5), to("a", 4), to("b", 65536), to("c", 1)), 5, 4, 65536, 1)
	leads(t, "an index of one page", index(3, to("", 5), to("a", 5), to("b", 5)), 5, 5, 5)
	leads(t, "a blob", blob(480, 65536), 65536)
	leads(t, "the last blob", blob(480, 0))
}

// Kids answers of any page, of such that Check refuses too.
func TestP7_4KidsOfAnyPage(t *testing.T) {
	odd := []api.Item{{Child: -3}, {Child: 0}, {Key: text(30), Size: 5, Child: 7}, {Child: greatest}, {Child: least}, {Child: 7}, {Value: text(99)}, {Child: 65537}}
	leads(t, "a leaf", api.Page{Kind: 1, Level: -4, Items: odd, Data: text(3), Next: 8}, -3, 7, greatest, least, 7, 65537)
	leads(t, "an index", api.Page{Kind: 2, Level: 99, Items: odd, Data: text(3), Next: 8}, -3, 0, 7, greatest, least, 7, 0, 65537)
	leads(t, "a blob", api.Page{Kind: 3, Level: 7, Items: odd, Data: text(999), Next: 8}, 8)
	leads(t, "a blob without data", api.Page{Kind: 3, Items: odd, Next: -8}, -8)
	leads(t, "a blob", api.Page{Kind: 3, Items: odd, Next: greatest}, greatest)
	leads(t, "a blob", api.Page{Kind: 3, Items: odd})
	for _, kind := range []int{0, 4, 5, -1, -3, 256, 257, 259, 1<<32 + 1, greatest, least} {
		leads(t, "kind "+strconv.Itoa(kind), api.Page{Kind: kind, Items: odd, Data: text(3), Next: 8})
	}
	leads(t, "an index of none", index(1))
	leads(t, "an index of none", api.Page{Kind: 2, Items: []api.Item{}})
	leads(t, "a leaf of none", leaf())
	leads(t, "the zero page", api.Page{})
	many := leaf(make([]api.Item, 1000)...)
	many.Items[999].Child = 3
	leads(t, "a leaf of many", many, 3)
	many.Kind = 2
	if n := len(page.Kids(many)); n != 1000 {
		t.Errorf("an index of 1000 items leads to %d", n)
	}
}

func TestP7_5ThereAndBack(t *testing.T) {
	r := draw.Numbers(77)
	for _, p := range soundPages() {
		for _, gen := range []int{0, 258, mostGen, r.Below(mostGen)} {
			for _, no := range []int{1, mostPages, 1 + r.Below(mostPages)} {
				b := encoded(t, no, gen, p)
				decodes(t, "there and back", no, b, p, gen)
				q, g, _ := page.Decode(no, b)
				if c := encoded(t, no, g, q); !bytes.Equal(b, c) {
					t.Fatalf("back and there: %x, want %x", c, b)
				}
			}
		}
	}
}

// What stands on a page with a nil somewhere is the same block as with an empty list.
func TestR3Encode(t *testing.T) {
	for _, l := range [][]byte{nil, {}, make([]byte, 0, 9)} {
		for _, items := range [][]api.Item{nil, {}, make([]api.Item, 0, 9)} {
			for _, c := range []struct{ p, same api.Page }{
				{api.Page{Kind: 1, Items: []api.Item{{Key: text(1), Value: l}, {Key: text(2), Value: l, Size: 40, Child: 8}}, Data: l}, leaf(near("k", ""), far("kk", 40, 8))},
				{api.Page{Kind: 2, Level: 1, Items: []api.Item{{Key: l, Value: l, Child: 1}, {Key: text(1), Value: l, Child: 2}}, Data: l}, index(1, to("", 1), to("k", 2))},
				{api.Page{Kind: 3, Data: text(3), Items: items}, blob(3, 0)},
			} {
				b := encoded(t, 3, 4, c.p)
				if !bytes.Equal(b, sealed(modelBytes(3, 4, c.same))) {
					t.Errorf("%v is another block", c.p)
				}
				decodes(t, "with an empty list", 3, b, c.p, 4)
			}
			encodeRefused(t, "without items", 3, 4, api.Page{Kind: 1, Items: items}, api.ErrForm)
		}
		refused(t, "no bytes", 3, l, api.ErrBlock)
	}
}

func TestP7_6EveryOtherNumber(t *testing.T) {
	for _, p := range []api.Page{leafOf(3), indexOf(2, 4), blob(480, 6)} {
		for _, own := range []int{1, 258, mostPages} {
			b := encoded(t, own, 9, p)
			for no := 1; no <= mostPages; no += 1 + 200*(p.Kind-1) {
				if no != own {
					refused(t, "another number", no, b, api.ErrOther)
				}
			}
			decodes(t, "its own number", own, b, p, 9)
		}
	}
}

// turned is the block with the bits of a pattern turned from bit start on, the bits
// of each byte counted from the lowest one on.
func turned(b []byte, start int, pattern uint32) []byte {
	c := slices.Clone(b)
	for i := range 32 {
		if at := start + i; pattern>>i&1 == 1 && at < 8*len(c) {
			c[at/8] ^= 1 << (at % 8)
		}
	}
	return c
}

func TestP7_7OneBit(t *testing.T) {
	for _, p := range []api.Page{leafOf(1), greatLeaf(), greatIndex(), greatBlob(), blob(1, 0)} {
		b := encoded(t, 5, 258, p)
		for i := range 8 * 512 {
			for _, no := range []int{5, 1, mostPages} {
				refused(t, "bit "+strconv.Itoa(i)+" turned", no, turned(b, i, 1), api.ErrSum)
			}
		}
	}
}

func TestP7_7BitsSideBySide(t *testing.T) {
	r := draw.Numbers(78)
	blocks := [][]byte{first(), encoded(t, 5, mostGen, greatLeaf()), encoded(t, 5, 0, greatIndex()), encoded(t, 5, 0, greatBlob()), encoded(t, 5, 0, blob(1, 0))}
	for start := range 8 * 512 {
		for _, pattern := range []uint32{3, 0xFF, 1<<31 | 1, 0xFFFFFFFF, 0x82F63B78, 0x1EDC6F41, uint32(r.Next()) | 1, uint32(r.Next()) | 1<<31, uint32(r.Next()) | 1} {
			b := blocks[r.Below(len(blocks))]
			c := turned(b, start, pattern)
			if bytes.Equal(b, c) { // the pattern lies beyond the end
				continue
			}
			refused(t, "bits turned from "+strconv.Itoa(start), 5, c, api.ErrSum)
			refused(t, "bits turned from "+strconv.Itoa(start), 1+r.Below(mostPages), c, api.ErrSum)
		}
	}
}

func TestP7_8NumbersOfKids(t *testing.T) {
	r := draw.Numbers(79)
	counts := map[int]map[int]int{1: {}, 2: {}, 3: {}}
	look := func(p api.Page) {
		kids := page.Kids(p)
		for _, no := range kids {
			if no < 1 || no > mostPages {
				t.Fatalf("%v leads to %d", p, no)
			}
		}
		counts[p.Kind][len(kids)]++
	}
	for range 60000 {
		p := somePage(&r)
		for range r.Below(3) {
			spoil(&r, &p)
		}
		if page.Check(p) == api.OK {
			look(p)
		}
	}
	full := leaf()
	for i := range 8 {
		full.Items = append(full.Items, far(string(rune('a'+i)), 40, i+1))
	}
	checked(t, "a leaf of long values", full, api.OK)
	look(full)
	for kind, bounds := range map[int][2]int{1: {0, 8}, 2: {2, 8}, 3: {0, 1}} {
		for n := range counts[kind] {
			if n < bounds[0] || n > bounds[1] {
				t.Errorf("kind %d leads to %d pages", kind, n)
			}
		}
		if counts[kind][bounds[0]] == 0 || counts[kind][bounds[1]] == 0 {
			t.Errorf("kind %d: the bounds are not reached: %v", kind, counts[kind])
		}
	}
}

// What is answered hangs on the arguments alone: asked by several at a time too.
func TestR5SeveralAtATime(t *testing.T) {
	var all sync.WaitGroup
	for n := range 4 {
		all.Go(func() {
			for i, p := range soundPages() {
				no, gen := i+1, n
				b, e := page.Encode(no, gen, p)
				q, g, f := page.Decode(no, b)
				if e != api.OK || f != api.OK || g != gen || !samePages(p, q) || page.Check(p) != api.OK || !slices.Equal(page.Kids(p), page.Kids(q)) {
					t.Errorf("page %d, generation %d: %d, %d", no, gen, e, f)
				}
			}
		})
	}
	all.Wait()
}
