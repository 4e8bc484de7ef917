package cut_test

import (
	"fmt"
	"strings"
	"testing"

	"coppice/api"
	"coppice/draw"
	"coppice/grove"
)

// twoLeaves is an index on page 3 over leaves on the pages 1 and 2; the value of the
// first key of each stands on a page of its own, 4 and 5.
func twoLeaves(first, second string) []api.Page {
	pages := []api.Page{{}, {}, {Kind: indexKind, Level: 1, Items: []api.Item{{Child: 1}, {Key: []byte(second[:1]), Child: 2}}},
		{Kind: blobKind, Data: value(40)}, {Kind: blobKind, Data: value(40)}}
	for k, letters := range []string{first, second} {
		p := api.Page{Kind: leafKind}
		for _, letter := range []byte(letters) {
			p.Items = append(p.Items, api.Item{Key: []byte{letter}})
		}
		p.Items[0].Size, p.Items[0].Child = 40, 4+k
		pages[k] = p
	}
	return pages
}

// Of the steps the first one that cannot be done tells. Refs is 3.
func TestP16_1WhichError(t *testing.T) {
	for _, c := range []struct {
		leaves string
		cut    string // each of these letters
		counts [5]int
		more   int
		want   api.Errno
		failed string
	}{
		{"abcd mnop", "ac", [5]int{1, 1, 1, 1, 1}, 0, 0, ""},
		{"abcd mnop", "acmo", [5]int{1, 1, 2, 1, 1}, 0, errSpace, "root"},
		{"abcd mnop", "acmo", [5]int{3, 1, 2, 1, 1}, 0, errSpace, "root"}, // within one shadowing it stands ahead of ErrRefs
		{"abcd mnop", "acmo", [5]int{3, 1, 2, 1, 1}, 1, errRefs, "root"},
		{"abcd mnop", "acmo", [5]int{1, 3, 2, 1, 1}, 1, errRefs, "root"},
		{"abcd mnop", "acmo", [5]int{1, 3, 2, 1, 1}, 9, errRefs, "root"},
		{"abcd mnop", "ac", [5]int{2, 1, 1, 1, 1}, 0, errSpace, "child"},
		{"abcd mnop", "ac", [5]int{2, 1, 1, 3, 1}, 0, errSpace, "child"},
		{"abcd mnop", "ac", [5]int{2, 1, 1, 3, 1}, 1, errRefs, "child"}, // of the leaf's value, be it the one that is cut or not
		{"abcd mnop", "ac", [5]int{2, 3, 1, 3, 3}, 1, errRefs, "child"},
		{"abcd mnop", "ac", [5]int{2, 2, 2, 2, 2}, 1, errSpace, "child"},
		{"abcd mnop", "ac", [5]int{2, 2, 2, 2, 2}, 2, 0, ""}, // taking needs no page
		{"abcd mnop", "ac", [5]int{1, 3, 1, 1, 1}, 0, 0, ""},
		{"abcd mnop", "ac", [5]int{1, 3, 1, 1, 3}, 0, errRefs, "taking: " + rightTaken},
		{"abcd mnop", "ac", [5]int{1, 1, 1, 1, 3}, 0, 0, ""}, // it is led to once, and what it led to is not led to more often
		{"abcd mnop", "ac", [5]int{2, 2, 1, 1, 3}, 1, errRefs, "taking: " + rightTaken},
		{"abcd mnop", "ac", [5]int{2, 2, 2, 2, 3}, 2, errRefs, "taking: " + rightTaken},
		{"abcd mnop", "mo", [5]int{1, 1, 1, 3, 3}, 0, 0, ""},
		{"abcd mnop", "mo", [5]int{1, 2, 1, 1, 1}, 0, errSpace, "child"},
		{"abcd mnop", "mo", [5]int{1, 2, 1, 1, 1}, 1, 0, ""},
		{"abcd mnop", "mo", [5]int{1, 2, 1, 1, 3}, 1, errRefs, "child"},
		{"abcd mnop", "mo", [5]int{2, 1, 1, 1, 1}, 0, errSpace, childTaken},
		{"abcd mnop", "mo", [5]int{2, 1, 1, 3, 1}, 0, errSpace, childTaken},
		{"abcd mnop", "mo", [5]int{2, 1, 1, 3, 1}, 1, errRefs, childTaken},
		{"abcd mnop", "mo", [5]int{2, 2, 1, 3, 3}, 1, errRefs, "child"},
		{"abcd mnop", "mo", [5]int{2, 2, 1, 3, 1}, 1, errSpace, childTaken},
		{"abcd mnop", "mo", [5]int{2, 2, 1, 3, 1}, 2, errRefs, childTaken},
		{"abcd mnop", "mo", [5]int{2, 2, 2, 2, 2}, 2, errSpace, childTaken},
		{"abcd mnop", "mo", [5]int{2, 2, 2, 2, 2}, 3, 0, ""},
		{"abcd mnopq", "ac", [5]int{1, 2, 1, 1, 1}, 0, errSpace, rightLends},
		{"abcd mnopq", "ac", [5]int{1, 2, 1, 1, 3}, 0, errSpace, rightLends},
		{"abcd mnopq", "ac", [5]int{1, 2, 1, 1, 3}, 1, errRefs, rightLends},
		{"abcd mnopq", "ac", [5]int{1, 2, 1, 1, 1}, 1, 0, ""},
		{"abcd mnopq", "mo", [5]int{2, 1, 1, 3, 3}, 0, 0, ""}, // the leaf has more than the least: the other one is left alone
		{"abcde mnop", "mo", [5]int{2, 1, 1, 1, 1}, 0, errSpace, leftLends},
		{"abcde mnop", "mo", [5]int{2, 1, 1, 3, 1}, 0, errSpace, leftLends},
		{"abcde mnop", "mo", [5]int{2, 1, 1, 3, 1}, 1, errRefs, leftLends},
		{"abcde mnop", "mo", [5]int{2, 1, 1, 1, 1}, 1, 0, ""},
		{"abcde mnop", "ac", [5]int{1, 3, 1, 3, 3}, 0, 0, ""},
	} {
		first, second, _ := strings.Cut(c.leaves, " ")
		for _, letter := range []byte(c.cut) {
			s := grove.StoreOf(3, twoLeaves(first, second), c.more)
			copy(s.Counts, c.counts[:])
			_, did, e := holds(t, vaultOf(t, s), tree(3, 2, len(first+second)), []byte{letter})
			equal(t, fmt.Sprintf("Cut of %c, %v", letter, c), e, c.want)
			equal(t, fmt.Sprintf("Cut of %c, %v: the step", letter, c), did.failed, c.failed)
			// ErrKey stands ahead of all others; a key that is not there needs nothing.
			cutsNot(t, vaultOf(t, s), tree(3, 2, len(first+second)), nil, errKey)
			cutsNot(t, vaultOf(t, s), tree(3, 2, len(first+second)), []byte("h"), 0)
		}
	}
}

// The last key of a tree: its leaf is shadowed ahead of being taken.
func TestP16_1TheLastKey(t *testing.T) {
	for _, size := range []int{0, inline, inline + 1, chunk + 1, maxValue} {
		n := pagesOf(value(size))
		for _, c := range []struct {
			count, lasts, more int
			blob               int // the count of the value's first page, if it has pages
			want, wantBlob     api.Errno
		}{
			{1, 0, 0, 1, 0, 0}, {1, 1, 0, 1, errSpace, errSpace}, {2, 0, 0, 1, errSpace, errSpace}, {1, 1, 1, 1, 0, 0},
			{2, 0, 1, 1, 0, 0}, {2, 1, 1, 1, 0, 0}, {2, 0, 1, 2, 0, errRefs}, {1, 1, 1, 2, 0, 0}, {1, 0, 0, 2, 0, 0},
		} {
			pages := []api.Page{{Kind: leafKind, Items: []api.Item{{Key: []byte("k"), Value: value(size), Size: size}}}}
			if n > 0 {
				pages[0].Items[0].Value, pages[0].Items[0].Child = nil, 2
			}
			for k := range n {
				p := api.Page{Kind: blobKind, Data: value(size)[k*chunk : min(size, k*chunk+chunk)]}
				if k < n-1 {
					p.Next = k + 3
				}
				pages = append(pages, p)
			}
			s := grove.StoreOf(2, pages, c.more)
			s.Counts[0] = c.count
			for k := range pages {
				s.Lasts[k] = c.lasts
			}
			want := c.want
			if n > 0 {
				s.Counts[1] = c.blob
				want = c.wantBlob
			}
			v := vaultOf(t, s)
			y, _, e := holds(t, v, tree(1, 1, 1), []byte("k"))
			equal(t, fmt.Sprintf("Cut of %d bytes, %v", size, c), e, want)
			equal(t, "the tree", y, empty)
			if e != 0 {
				continue
			}
			equal(t, "the leaf", v.Count(1), c.count-1)
			if c.count == 1 && (n == 0 || c.blob == 1) {
				isAll(t, v)
			}
		}
	}
}

// Marks that were made ahead of a cut are good behind it, whether it is done or refused;
// none that was made ahead of a Settle is.
func TestP16_1Marks(t *testing.T) {
	t.Parallel()
	r, met := draw.Numbers(261), map[api.Errno]int{}
	for round := range 30 {
		g := someTree(&r, 2+round%2)
		s, _ := grove.Setting{Refs: 2, More: r.Below(6), Lasting: 4, Shared: r.Below(2)}.Lay(&r, g)
		v, x := vaultOf(t, s), g.Tree
		var marks []int
		var stores []*grove.Store
		for k := range 20 {
			marks, stores = append(marks, v.Mark()), append(stores, grove.StoreFrom(v))
			y, _, e := holds(t, v, x, keyOf(&r, g))
			if met[e]++; e == 0 {
				x = y
			}
			if k == round/2 {
				v.Settle()
				for _, mark := range marks {
					equal(t, "Undo of what was settled", mark < v.Mark() && v.Undo(mark), false)
				}
				marks, stores = nil, nil
			}
		}
		cutsNot(t, v, x, nil, errKey)
		cutsNot(t, v, x, make([]byte, maxKey+1), errKey)
		for k := len(marks) - 1; k >= 0; k-- {
			equal(t, "Undo", v.Undo(marks[k]), true)
			equal(t, "Mark", v.Mark(), marks[k])
			equal(t, "a page that is not as it was", stores[k].Differs(v), 0)
		}
	}
	equal(t, "some were done, others not", met[0] > 100 && met[errSpace] > 20 && met[errRefs] > 20, true)
}
