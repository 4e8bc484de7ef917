package blob_test

import (
	"bytes"
	"fmt"
	"math/big"
	"testing"

	"coppice/api"
	"coppice/blob"
	"coppice/draw"
	"coppice/vault"
	"coppice/view"
)

// The chapter's table, row by row.
func TestExamples(t *testing.T) {
	for n, want := range map[int]int{32: 0, 33: 1, 480: 1, 481: 2, 3840: 8, -1: 0} {
		equal(t, fmt.Sprintf("Pages(%d)", n), blob.Pages(n), want)
	}
	v := newVault(t, 3)
	first := stores(t, v, []byte("k"), value(32))
	equal(t, "the first item", view.Item(first), view.Item(api.Item{Key: []byte("k"), Value: value(32), Size: 32}))
	second := stores(t, v, []byte("k"), value(500))
	equal(t, "the second item", view.Item(second), view.Item(api.Item{Key: []byte("k"), Child: 2, Size: 500}))
	reads(t, v, 1, api.Page{Kind: blobKind, Data: value(500)[480:]})
	reads(t, v, 2, api.Page{Kind: blobKind, Data: value(500)[:480], Next: 1})
	unchanged(t, v, func() { storesNot(t, v, []byte("l"), value(481), errSpace) })
	loads(t, v, second, value(500))
	loadsNot(t, v, long(501, 2), errForm)
	loadsNot(t, v, long(480, 2), errForm)
	loadsNot(t, v, long(500, 1), errForm)
	loadsNot(t, v, long(500, 3), errPage)
	storesNot(t, v, nil, value(3841), errKey)
	storesNot(t, v, []byte("k"), value(3841), errValue)
	releases(t, v, second, 0)
	loadsNot(t, v, second, errPage)
	releases(t, v, second, errPage)
}

// pagesOf is n divided by 480, rounded up, where n is above 32.
func pagesOf(n int) int {
	if n <= inline {
		return 0
	}
	q, r := new(big.Int).QuoRem(big.NewInt(int64(n)), big.NewInt(chunk), new(big.Int))
	if r.Sign() > 0 {
		q.Add(q, big.NewInt(1))
	}
	return int(q.Int64())
}

func TestP13_1Pages(t *testing.T) {
	for n, want := range map[int]int{
		least: 0, least + 1: 0, -1 << 32: 0, -481: 0, -480: 0, -33: 0, -1: 0, 0: 0, 1: 0, 31: 0, 32: 0,
		33: 1, 34: 1, 479: 1, 480: 1, 481: 2, 959: 2, 960: 2, 961: 3, 3360: 7, 3361: 8, 3839: 8, 3840: 8, 3841: 9,
		1 << 32: 8947849, greatest - 1: 19215358410114117, greatest: 19215358410114117,
	} {
		equal(t, fmt.Sprintf("Pages(%d)", n), blob.Pages(n), want)
	}
	for n := -1000; n <= 10*maxValue; n++ {
		equal(t, fmt.Sprintf("Pages(%d)", n), blob.Pages(n), pagesOf(n))
	}
	for n := greatest - 1000; n > 0; n++ {
		equal(t, fmt.Sprintf("Pages(%d)", n), blob.Pages(n), pagesOf(n))
	}
	r := draw.Numbers(131)
	for range 20000 {
		n := int(r.Next()) >> r.Below(64)
		many := n / chunk * chunk
		for _, n := range []int{n, many - 1, many, many + 1} {
			equal(t, fmt.Sprintf("Pages(%d)", n), blob.Pages(n), pagesOf(n))
		}
	}
}

// A value of each length: the item, and the pages from the first one on.
func TestP13_2Items(t *testing.T) {
	for n := 0; n <= maxValue; n++ {
		v := newVault(t, 9)
		i := stores(t, v, []byte("key"), value(n))
		if n <= inline {
			equal(t, "a short value", view.Item(i), view.Item(api.Item{Key: []byte("key"), Value: value(n), Size: n}))
			equal(t, "Free", v.Tally(free), 9)
			equal(t, "Mark", v.Mark(), 0)
			continue
		}
		pages := pagesOf(n)
		equal(t, "a long value", view.Item(i), view.Item(api.Item{Key: []byte("key"), Child: pages, Size: n}))
		equal(t, "Fresh", v.Tally(fresh), pages)
		for at := range pages {
			to := min((at+1)*chunk, n)
			reads(t, v, pages-at, api.Page{Kind: blobKind, Data: value(n)[at*chunk : to], Next: pages - at - 1})
			equal(t, "Count", v.Count(pages-at), 1)
		}
	}
}

// Keys of each length, of any bytes.
func TestP13_2Keys(t *testing.T) {
	r := draw.Numbers(132)
	for n := 1; n <= maxKey; n++ {
		for _, key := range [][]byte{make([]byte, n), bytes.Repeat([]byte{255}, n), r.Bytes(n)} {
			for _, size := range []int{0, inline, inline + 1, maxValue} {
				v := newVault(t, 8)
				loads(t, v, stores(t, v, key, value(size)), value(size))
			}
		}
	}
}

// Each fault of a key, a value and of room with all that come behind it.
func TestP13_2WhichErrorTells(t *testing.T) {
	noKeys := [][]byte{nil, {}, make([]byte, maxKey+1), make([]byte, maxKey+2), make([]byte, 256), make([]byte, 256+1), make([]byte, 1<<16+1)}
	noValues := [][]byte{value(maxValue + 1), value(maxValue + 2), value(1 << 16), value(1<<16 + 1), value(1 << 20)}
	values := [][]byte{nil, {}, value(1), value(inline), value(inline + 1), value(maxValue)}
	for _, frees := range [][]int{nil, {2}, {1, 2, 3, 4, 5, 6, 7, 8, 9, 10}} {
		v := withFree(t, 10, frees...)
		unchanged(t, v, func() {
			for _, key := range noKeys {
				for _, value := range append(values, noValues...) {
					storesNot(t, v, key, value, errKey)
				}
			}
			for _, value := range noValues {
				storesNot(t, v, []byte("k"), value, errValue)
				storesNot(t, v, make([]byte, maxKey), value, errValue)
			}
		})
	}
	// Without a free page a short value is stored all the same.
	v := withFree(t, 10)
	unchanged(t, v, func() {
		for n := range inline + 1 {
			loads(t, v, stores(t, v, []byte("k"), value(n)), value(n))
		}
		for n := inline + 1; n <= maxValue; n += 7 {
			storesNot(t, v, []byte("k"), value(n), errSpace)
		}
	})
}

// Just as many free pages as are needed, one more, and each number below; behind what
// was refused the vault goes on as if nothing had been asked.
func TestP13_2Room(t *testing.T) {
	lie := []int{2, 3, 5, 9, 10, 13, 17, 18, 20}
	for _, n := range sizes() {
		for many := range lie {
			v := withFree(t, 20, lie[:many]...)
			need, mark := taken(n), v.Mark()
			if many >= need {
				before := view.Vault(v)
				i := stores(t, v, []byte("k"), value(n))
				equal(t, "Free", v.Tally(free), many-need)
				loads(t, v, i, value(n))
				equal(t, "Mark is not below", v.Mark() >= mark, true)
				equal(t, "Undo", v.Undo(mark), true)
				equal(t, "behind Undo", view.Vault(v), before)
				continue
			}
			unchanged(t, v, func() { storesNot(t, v, []byte("k"), value(n), errSpace) })
			goesOn(t, v, withFree(t, 20, lie[:many]...))
		}
	}
}

// goesOn: the first vault, of which something was refused, is as the other one, of
// which it was not asked, also where acts are undone one by one, and behind a Settle.
func goesOn(t *testing.T, v, w *vault.Vault) {
	t.Helper()
	same := func() {
		t.Helper()
		equal(t, "what is to be seen", view.Vault(v), view.Vault(w))
		equal(t, "Mark", v.Mark(), w.Mark())
	}
	same()
	a, e := v.Make(L("x"))
	b, f := w.Make(L("x"))
	equal(t, "Make", a, b)
	equal(t, "Make", e, f)
	same()
	for mark := v.Mark() + 1; mark >= -1; mark-- {
		equal(t, "Undo", v.Undo(mark), w.Undo(mark))
		same()
	}
	v.Settle()
	w.Settle()
	same()
	equal(t, "Undo", v.Undo(v.Mark()), w.Undo(w.Mark()))
	same()
}

// What was done ahead of a Store that is refused can be undone behind it still, and what
// was settled ahead of it cannot.
func TestP13_2RefusedLeavesMarks(t *testing.T) {
	v := newVault(t, 3)
	i := stores(t, v, []byte("a"), value(40))
	v.Settle()
	floor := v.Mark()
	j := stores(t, v, []byte("b"), value(40))
	mark := v.Mark()
	storesNot(t, v, []byte("c"), value(481), errSpace)
	equal(t, "Mark", v.Mark(), mark)
	equal(t, "Undo below the Settle", v.Undo(floor-1), false)
	loads(t, v, j, value(40))
	equal(t, "Undo", v.Undo(floor), true)
	loadsNot(t, v, j, errPage)
	loads(t, v, i, value(40))
	equal(t, "Free", v.Tally(free), 2)
}

// The lowest pages that are free are taken, the lowest by the value's last bytes, also
// where they lie among pages of all states; no other page is touched.
func TestP13_2WhichPages(t *testing.T) {
	for _, frees := range [][]int{{1}, {20}, {4, 7}, {19, 20}, {1, 3, 4, 8, 20}, {2, 3, 5, 7, 11, 13, 17, 19}, {1, 2, 3, 4, 5, 6, 7, 8}, {3, 6, 9, 10, 12, 15, 16, 18, 20}} {
		for _, n := range sizes() {
			need := taken(n)
			if need == 0 || need > len(frees) {
				continue
			}
			v, was := withFree(t, 20, frees...), withFree(t, 20, frees...)
			i := stores(t, v, []byte("k"), value(n))
			equal(t, "Child", i.Child, frees[need-1])
			for at, no := range frees[:need] {
				from, next := (need-at-1)*chunk, 0
				if at > 0 {
					next = frees[at-1]
				}
				reads(t, v, no, api.Page{Kind: blobKind, Data: value(n)[from:min(from+chunk, n)], Next: next})
				equal(t, "State", v.State(no), fresh)
				equal(t, "Count", v.Count(no), 1)
				was.Make(api.Page{Kind: blobKind, Data: value(n)[from:min(from+chunk, n)], Next: next})
			}
			equal(t, "all else", view.Vault(v), view.Vault(was))
		}
	}
}

// The greatest vault, and the last pages of it.
func TestP13_2LastPages(t *testing.T) {
	v, e := vault.New(maxPages, 2)
	equal(t, "vault.New", e, 0)
	for range maxPages - 8 {
		v.Make(B(1, 0))
	}
	i := stores(t, v, []byte("k"), value(maxValue))
	equal(t, "Child", i.Child, maxPages)
	loads(t, v, i, value(maxValue))
	storesNot(t, v, []byte("k"), value(33), errSpace)
	releases(t, v, i, 0)
	equal(t, "Free", v.Tally(free), 8)
}
