package diff_test

import (
	"bytes"
	"fmt"
	"slices"
	"testing"

	"coppice/api"
	"coppice/cut"
	"coppice/diff"
	"coppice/draw"
	"coppice/fork"
	"coppice/grove"
	"coppice/put"
	"coppice/vault"
	"coppice/walk"
)

// levels is how many leaves and indexes of each level there are among pages, and how many
// blobs.
func levels(t *testing.T, v *vault.Vault, pages []int) (byLevel map[int]int, blobs int) {
	t.Helper()
	byLevel = map[int]int{}
	for _, n := range pages {
		p, e := v.Read(n)
		equal(t, "Read", e, 0)
		if p.Kind == blobKind {
			blobs++
		} else {
			byLevel[p.Level]++
		}
	}
	return byLevel, blobs
}

// pagesOf is how many pages a value takes, counted one by one.
func pagesOf(value []byte) int {
	n := 0
	for left := len(value); len(value) > inline && left > 0; left -= chunk {
		n++
	}
	return n
}

// P20.2 and P20.5: a tree and a clone into which one key was put, or out of which one was
// cut: at most 4 pages for each level, and those of the values that are in one of them
// alone.
func TestP20_5OnePutOrCut(t *testing.T) {
	t.Parallel()
	r, met := draw.Numbers(621), met{}
	for round := range 400 {
		g := grove.Any(&r, 1+round%4)
		s, trees := grove.Setting{Refs: 9, More: 60, Lasting: round % 5}.Lay(&r, g)
		v := vaultOf(t, s)
		a := trees[0]
		b, e := fork.Clone(v, a)
		equal(t, "Clone", e, 0)
		key, now := g.SomeKey(&r), someValue(&r)
		old, had := g.Get(key)
		what := "put"
		if round%8 < 4 {
			b, _, e = put.Put(v, b, key, now)
		} else {
			what, now = "cut", nil
			b, _, e = cut.Cut(v, b, key)
		}
		equal(t, what, e, 0)
		c := couple{v, a, b, g}
		l := c.tells(t, &r)
		pages := read(t, v, a, b)
		if a == b { // a cut of a key that is not there
			equal(t, "how many pages are read", len(pages), 0)
			continue
		}
		byLevel, blobs := levels(t, v, pages)
		for level, n := range byLevel {
			equal(t, "the pages of a level", n <= 4 && level < max(a.Height, b.Height), true)
		}
		equal(t, "the pages of values", blobs, pagesOf(old)+pagesOf(now))
		equal(t, "what differs", len(l) <= 1, true)
		met[fmt.Sprintf("%s, was there: %t", what, had)]++
		met[fmt.Sprintf("higher by %d", b.Height-a.Height)]++
		met[fmt.Sprintf("%d pages of the leaves", byLevel[0])]++
		met[fmt.Sprint("pages of values: ", blobs > 0)]++
	}
	met.wants(t, 20, "put, was there: true", "put, was there: false", "cut, was there: true", "higher by 0", "higher by 1", "higher by -1",
		"2 pages of the leaves", "3 pages of the leaves", "pages of values: true")
	met.wants(t, 3, "4 pages of the leaves")
}

// P20.5: for each key that differs, the leaf in which it is is one of Read.
func TestP20_5LeavesAreRead(t *testing.T) {
	t.Parallel()
	r, met := draw.Numbers(622), met{}
	for round := range 200 {
		c := someCouple(t, &r, 1+round%3)
		pages := read(t, c.v, c.a, c.b)
		leafIsRead := func(x api.Tree, key []byte) {
			way, e := walk.Path(c.v, x, key)
			equal(t, "Path", e, 0)
			_, is := slices.BinarySearch(pages, way[len(way)-1])
			equal(t, fmt.Sprintf("the leaf of %q is read", key), is, true)
		}
		for _, x := range list(t, c.v, c.a, c.b, allKeys) {
			if x.Kind != added {
				leafIsRead(c.a, x.Key)
			}
			if x.Kind != removed {
				leafIsRead(c.b, x.Key)
			}
			met[fmt.Sprint(x.Kind)]++
		}
		for k := 1; k < len(pages); k++ {
			equal(t, "the pages rise, each once", pages[k] > pages[k-1], true)
		}
	}
	met.wants(t, 50, "1", "2", "3")
}

// handMade is a vault of these pages, each led to once.
func handMade(t *testing.T, pages ...api.Page) *vault.Vault {
	t.Helper()
	return vaultOf(t, grove.StoreOf(9, pages, 2))
}

// leafOf is a leaf of the keys a, b and so on, whose values stand on pages.
func leafOf(size, child int, more ...int) api.Page {
	p := api.Page{Kind: leafKind, Items: []api.Item{{Key: []byte("a"), Size: size, Child: child}}}
	for k := 0; k < len(more); k += 2 {
		p.Items = append(p.Items, api.Item{Key: []byte{byte('b' + k/2)}, Size: more[k], Child: more[k+1]})
	}
	return p
}

// B is a blob of so many bytes.
func B(size, next int) api.Page {
	return api.Page{Kind: blobKind, Data: value(size), Next: next}
}

// P20.2: long values some of whose pages are shared: all of them, the last ones, at unlike
// places of a value, and under unlike keys.
func TestP20_2Values(t *testing.T) {
	full := func(next int) api.Page { return B(chunk, next) }
	for _, c := range []struct {
		name   string
		pages  []api.Page // 1 and 2 are the leaves
		read   []int
		differ int
	}{
		{"one value", []api.Page{leafOf(500, 3), leafOf(500, 3), full(4), B(20, 0)}, []int{1, 2}, 0},
		{"the same bytes", []api.Page{leafOf(500, 3), leafOf(500, 5), full(4), B(20, 0), full(6), B(20, 0)}, []int{1, 2, 3, 4, 5, 6}, 0},
		{"one last page, the same bytes", []api.Page{leafOf(500, 3), leafOf(500, 5), full(4), B(20, 0), full(4)}, []int{1, 2, 3, 5}, 0},
		{"one last page", []api.Page{leafOf(500, 3), leafOf(500, 5), full(4), B(20, 0), {Kind: blobKind, Data: turned(value(chunk), 7), Next: 4}}, []int{1, 2, 3, 5}, 1},
		{"a page more ahead", []api.Page{leafOf(980, 3), leafOf(500, 4), full(4), full(5), B(20, 0)}, []int{1, 2, 3}, 1},
		{"a page more ahead, of b", []api.Page{leafOf(500, 4), leafOf(980, 3), full(4), full(5), B(20, 0)}, []int{1, 2, 3}, 1},
		{"one page as a whole value and as a last one", []api.Page{leafOf(480, 4), leafOf(960, 3), full(4), full(0)}, []int{1, 2, 3}, 1},
		{"under another key", []api.Page{leafOf(40, 3, 500, 4), leafOf(500, 4, 40, 3), B(40, 0), full(5), B(20, 0)}, []int{1, 2}, 2},
		{"under another key, a page more ahead", []api.Page{leafOf(40, 3, 500, 4), leafOf(980, 6, 40, 3), B(40, 0), full(5), B(20, 0), full(4)}, []int{1, 2, 6}, 2},
		{"a short value and a long one", []api.Page{leafOf(0, 0), leafOf(33, 3), B(33, 0)}, []int{1, 2, 3}, 1},
		{"the greatest value", []api.Page{leafOf(3840, 3), leafOf(3360, 4), full(4), full(5), full(6), full(7), full(8), full(9), full(10), full(0)}, []int{1, 2, 3}, 1},
	} {
		v := handMade(t, c.pages...)
		a, b := tree(1, 1, len(c.pages[0].Items)), tree(2, 1, len(c.pages[1].Items))
		stand(t, v, a)
		stand(t, v, b)
		equalLists(t, c.name+": Read", read(t, v, a, b), c.read)
		equalLists(t, c.name+": Read of b and a", read(t, v, b, a), c.read)
		l := list(t, v, a, b, allKeys)
		equal(t, c.name+": how many differ", len(l), c.differ)
		equalChanges(t, c.name+": List", l, modelList(pairs(t, v, a), pairs(t, v, b)))
	}
}

// W8: pages that both share are not read: they may lack, and all is told as if they were
// there. (A value whose pages are shared in part is told, and so read.)
func TestW8SharedPagesMayLack(t *testing.T) {
	t.Parallel()
	r, met := draw.Numbers(623), met{}
	for round := range 200 {
		c := siblings(t, &r, 1+round%4, r.Below(9))
		values := true
		if round%3 == 0 {
			c, values = relatives(t, &r, 1+round%4, round%2), false
		}
		shared := sharedPages(c.v, c.a, c.b)
		want, pages := modelList(pairs(t, c.v, c.a), pairs(t, c.v, c.b)), modelRead(c.v, c.a, c.b)
		s := grove.StoreFrom(c.v)
		for _, n := range shared {
			if values || s.On[n-1].Kind != blobKind {
				s.Counts[n-1] = 0
			}
		}
		v := vaultOf(t, s)
		equalChanges(t, "List", list(t, v, c.a, c.b, allKeys), want)
		equalChanges(t, "Walk", slices.Collect(diff.Walk(v, c.a, c.b)), want)
		for _, n := range shared {
			s.Counts[n-1] = 0
		}
		equalLists(t, "Read", read(t, vaultOf(t, s), c.a, c.b), pages)
		met[fmt.Sprint(len(shared) > 0, len(want) > 0)]++
	}
	met.wants(t, 30, "true true", "true false")
}

// P20.1 and P20.2: by a range the same is told where pages lack beneath which no key of it
// lies, but for the pages at its ends.
func TestW8OtherPagesMayLack(t *testing.T) {
	t.Parallel()
	r, few := draw.Numbers(624), 0
	for round := range 60 {
		c := strangers(t, &r, 2+round%3)
		at := r.Below(len(c.grown.Pairs))
		by := api.Range{Lo: c.grown.Pairs[at].Key, Hi: c.grown.Pairs[min(len(c.grown.Pairs)-1, at+5)].Key}
		want := in(modelList(pairs(t, c.v, c.a), pairs(t, c.v, c.b)), by)
		ways := map[int]int{}
		for _, x := range []api.Tree{c.a, c.b} {
			for _, key := range append([][]byte{by.Lo, by.Hi}, keysIn(t, c.v, x, by)...) {
				way, e := walk.Path(c.v, x, key)
				equal(t, "Path", e, 0)
				for _, n := range way {
					ways[n]++
				}
			}
		}
		s := grove.StoreFrom(c.v)
		for k, p := range s.On {
			if ways[k+1] == 0 && p.Kind != blobKind {
				s.Counts[k] = 0
				few++
			}
		}
		equalChanges(t, "List by "+text(by), list(t, vaultOf(t, s), c.a, c.b, by), want)
	}
	equal(t, "many pages lack", few > 500, true)
}

// keysIn is the keys of a tree that lie in a range.
func keysIn(t *testing.T, v *vault.Vault, x api.Tree, r api.Range) [][]byte {
	t.Helper()
	var l [][]byte
	for _, p := range pairs(t, v, x) {
		if lies(r, p.Key) {
			l = append(l, bytes.Clone(p.Key))
		}
	}
	return l
}
