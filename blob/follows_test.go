package blob_test

import (
	"fmt"
	"testing"

	"coppice/api"
	"coppice/blob"
	"coppice/draw"
	"coppice/vault"
	"coppice/view"
)

// Without pages there is nothing to be dropped, whatever Child and Value say.
func TestP13_4WithoutPages(t *testing.T) {
	v := vaultOf(t, B(480, 2), B(20, 0), L("a"))
	unchanged(t, v, func() {
		for _, size := range []int{least, -1 << 32, -500, -33, -1, 0, 1, 31, 32} {
			for _, child := range []int{least, -1, 0, 1, 2, 3, 4, 65537, greatest} {
				for _, has := range []int{0, 1, 32, 500} {
					releases(t, v, api.Item{Key: []byte("k"), Value: value(has), Child: child, Size: size}, 0)
				}
			}
		}
	})
}

// Above Inline it is vault.Drop of Child, whatever stands there and whatever Size says.
func TestP13_4IsDrop(t *testing.T) {
	pages := []api.Page{B(480, 2), B(480, 3), B(20, 0), L("a"), {}, B(7, 5), N(1, 4), N(4, 6), B(9, 9), B(480, 11), B(30, 10)}
	for _, size := range []int{33, 480, 481, 1000, maxValue, maxValue + 1, 1 << 32, greatest} {
		for _, child := range []int{least, -1, 0, 1, 2, 3, 4, 5, 6, 7, 8, 9, 10, 11, 12, 65536, 65537, greatest} {
			for _, kept := range []bool{false, true} {
				v, w := vaultOf(t, pages...), vaultOf(t, pages...)
				if kept {
					equal(t, "Keep", v.Keep(child), w.Keep(child))
				}
				want := w.Drop(child)
				if want != 0 {
					unchanged(t, v, func() { releases(t, v, long(size, child), want) })
				} else {
					releases(t, v, api.Item{Key: []byte("k"), Value: value(3), Child: child, Size: size}, 0)
				}
				equal(t, "what is to be seen", view.Vault(v), view.Vault(w))
				mark := 0
				if kept && v.Count(child) > 0 {
					mark = 1
				}
				equal(t, "Undo", v.Undo(mark), w.Undo(mark))
				equal(t, "behind Undo", view.Vault(v), view.Vault(w))
			}
		}
	}
}

// What was released is no more there to be released; undone, it is there again.
func TestP13_4Twice(t *testing.T) {
	for _, n := range sizes() {
		v := newVault(t, 9)
		i := stores(t, v, []byte("k"), value(n))
		mark, seen := v.Mark(), view.Vault(v)
		releases(t, v, i, 0)
		equal(t, "Free", v.Tally(free), 9)
		if n > inline {
			unchanged(t, v, func() {
				releases(t, v, i, errPage)
				loadsNot(t, v, i, errPage)
			})
		}
		equal(t, "Undo", v.Undo(mark), true)
		equal(t, "behind Undo", view.Vault(v), seen)
		loads(t, v, i, value(n))
	}
}

// A value that is led to twice is there till it was released twice.
func TestP13_4Shared(t *testing.T) {
	v := newVault(t, 4)
	i := stores(t, v, []byte("k"), value(1000))
	equal(t, "Keep", v.Keep(i.Child), 0)
	releases(t, v, i, 0)
	loads(t, v, i, value(1000))
	equal(t, "Fresh", v.Tally(fresh), 3)
	releases(t, v, i, 0)
	loadsNot(t, v, i, errPage)
	equal(t, "Free", v.Tally(free), 4)
}

// There and back, for each length, without a Settle, with one between, and with one
// ahead: just these pages are taken and given back.
func TestP13_5ThereAndBack(t *testing.T) {
	for _, settled := range []bool{false, true} {
		for _, frees := range [][]int{{1, 2, 3, 4, 5, 6, 7, 8, 9}, {2, 3, 5, 6, 8, 11, 12, 13}} {
			for _, n := range sizes() {
				thereAndBack(t, withFree(t, 14, frees...), n, settled)
			}
		}
	}
}

func thereAndBack(t *testing.T, v *vault.Vault, n int, settled bool) {
	t.Helper()
	frees, counts, seen := v.Tally(free), fmt.Sprint(v.Counts()), view.Vault(v)
	i := stores(t, v, []byte("key"), value(n))
	equal(t, "pages that were taken", frees-v.Tally(free), taken(n))
	loads(t, v, i, value(n))
	if settled {
		v.Settle()
		loads(t, v, i, value(n))
	}
	own := pagesOfItem(v, i)
	equal(t, "pages of its own", len(own), taken(n))
	frees = v.Tally(free)
	releases(t, v, i, 0)
	equal(t, "Counts", fmt.Sprint(v.Counts()), counts)
	for _, at := range own {
		equal(t, "State", v.State(at), map[bool]int{false: free, true: pending}[settled])
	}
	if settled {
		equal(t, "Free", v.Tally(free), frees)
		v.Settle()
		equal(t, "Free behind Settle", v.Tally(free), frees+taken(n))
	} else {
		equal(t, "what is to be seen", view.Vault(v), seen)
	}
}

// Items that are stored beside one another have no page in common, and each is read
// till it is released.
func TestP13_6TwoStores(t *testing.T) {
	for _, n := range sizes() {
		for _, m := range sizes() {
			v := newVault(t, 16)
			i := stores(t, v, []byte("a"), value(n))
			before := pagesText(v)
			j := stores(t, v, []byte("b"), value(m))
			for no, was := range before {
				p, _ := v.Read(no)
				equal(t, "a page of the first one", fmt.Sprint(v.Count(no), v.State(no), view.Page(p)), was)
			}
			equal(t, "Fresh", v.Tally(fresh), taken(n)+taken(m))
			loads(t, v, i, value(n))
			loads(t, v, j, value(m))
			releases(t, v, i, 0)
			loads(t, v, j, value(m))
			equal(t, "Fresh", v.Tally(fresh), taken(m))
		}
	}
}

// pagesText is each page that is not Free, with its count and state.
func pagesText(v *vault.Vault) map[int]string {
	l := map[int]string{}
	for _, state := range []int{pending, fresh, held} {
		for n, p := range v.Pages(state) {
			l[n] = fmt.Sprint(v.Count(n), v.State(n), view.Page(p))
		}
	}
	return l
}

// pagesOfItem is the pages of an item that Store made, from the first one on.
func pagesOfItem(v *vault.Vault, i api.Item) []int {
	var l []int
	for n := i.Child; n != 0; {
		l = append(l, n)
		p, _ := v.Read(n)
		n = p.Next
	}
	return l
}

// stored is an item with the value that it must have.
type stored struct {
	item  api.Item
	value []byte
}

// Rows of stores and releases, of Settles and Undos: at each step each item that is there
// has its value, pages of its own, and nothing else is taken.
func TestP13_6Rows(t *testing.T) {
	r, met := draw.Numbers(136), map[string]int{}
	for range 300 {
		v, items := newVault(t, 1+r.Below(24)), []stored(nil)
		for range 60 {
			before, mark := append([]stored(nil), items...), v.Mark()
			what := step(t, &r, v, &items)
			sound(t, v, items)
			met[what]++
			if what != "Settle" && r.Below(5) == 0 {
				equal(t, "Mark is not below", v.Mark() >= mark, true)
				equal(t, "Undo", v.Undo(mark), true)
				items = before
				sound(t, v, items)
				met["Undo"]++
			}
		}
	}
	for _, what := range []string{"Store", "ErrSpace", "Release", "Settle", "Undo"} {
		if met[what] < 300 {
			t.Errorf("%s was met %d times", what, met[what])
		}
	}
}

// step does one call, and tells which.
func step(t *testing.T, r *draw.Numbers, v *vault.Vault, items *[]stored) string {
	t.Helper()
	switch k := r.Below(10); {
	case k == 0:
		v.Settle()
		return "Settle"
	case k < 5 && len(*items) > 0:
		at := r.Below(len(*items))
		before, gone := pagesText(v), (*items)[at]
		own := pagesOfItem(v, gone.item)
		releases(t, v, gone.item, 0)
		*items = append(append([]stored(nil), (*items)[:at]...), (*items)[at+1:]...)
		for _, n := range own {
			equal(t, "the count of what was released", v.Count(n), 0)
			delete(before, n)
		}
		stays(t, v, before)
		return "Release"
	}
	sizes := sizes()
	s, before, frees := stored{value: r.Bytes(sizes[r.Below(len(sizes))])}, pagesText(v), v.Tally(free)
	if taken(len(s.value)) > frees {
		unchanged(t, v, func() { storesNot(t, v, []byte("k"), s.value, errSpace) })
		return "ErrSpace"
	}
	s.item = stores(t, v, r.Bytes(1+r.Below(maxKey)), s.value)
	*items = append(append([]stored(nil), *items...), s)
	equal(t, "pages that were taken", frees-v.Tally(free), taken(len(s.value)))
	stays(t, v, before)
	return "Store"
}

// stays: these pages are as they were.
func stays(t *testing.T, v *vault.Vault, before map[int]string) {
	t.Helper()
	now := pagesText(v)
	for n, was := range before {
		equal(t, fmt.Sprintf("page %d", n), now[n], was)
	}
}

// sound: each item has its value and pages of its own, and all other counts are 0.
func sound(t *testing.T, v *vault.Vault, items []stored) {
	t.Helper()
	counts := make([]int, v.Len())
	for _, s := range items {
		loads(t, v, s.item, s.value)
		for _, n := range pagesOfItem(v, s.item) {
			counts[n-1]++
			equal(t, "a page of two", counts[n-1], 1)
		}
	}
	equal(t, "Counts", fmt.Sprint(v.Counts()), fmt.Sprint(counts))
}

// Two vaults know nothing of each other, and what is answered hangs on what was asked of
// the vault alone.
func TestR5TwoVaults(t *testing.T) {
	v, w := withFree(t, 12, 2, 3, 7, 11), withFree(t, 12, 2, 3, 7, 11)
	i := stores(t, v, []byte("k"), value(1000))
	was := view.Vault(w)
	releases(t, v, i, 0)
	stores(t, v, []byte("l"), value(50))
	equal(t, "the other one", view.Vault(w), was)
	j := stores(t, w, []byte("k"), value(1000))
	equal(t, "the same answer", view.Item(j), view.Item(i))
	if b, e := blob.Load(v, j); e == 0 || b != nil {
		t.Fatalf("Load of another vault's item = %x, %d", b, e)
	}
}
