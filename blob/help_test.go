package blob_test

import (
	"bytes"
	"fmt"
	"slices"
	"testing"

	"coppice/api"
	"coppice/blob"
	"coppice/vault"
	"coppice/view"
)

// The calls have just these types.
var (
	_ func(int) int                                            = blob.Pages
	_ func(*vault.Vault, []byte, []byte) (api.Item, api.Errno) = blob.Store
	_ func(*vault.Vault, api.Item) ([]byte, api.Errno)         = blob.Load
	_ func(*vault.Vault, api.Item) api.Errno                   = blob.Release
)

// The numbers that the document names, as it names them.
const (
	least, greatest = -9223372036854775808, 9223372036854775807
	inline          = 32
	chunk           = 480
	maxKey          = 24
	maxValue        = 3840
	maxPages        = 65536

	free, pending, fresh, held    = 1, 2, 3, 4
	leafKind, indexKind, blobKind = 1, 2, 3

	errForm, errKey, errValue, errSpace, errPage = 5, 7, 8, 12, 15
)

// value is n bytes in which no two pages' parts are alike.
func value(n int) []byte {
	b := make([]byte, n)
	for i := range b {
		b[i] = byte(i*7 + i/251 + 1)
	}
	return b
}

// B is a blob of n bytes that leads on to next.
func B(n, next int) api.Page { return api.Page{Kind: blobKind, Data: value(n), Next: next} }

// L is a leaf with one key, and the value of no byte.
func L(key string) api.Page {
	return api.Page{Kind: leafKind, Items: []api.Item{{Key: []byte(key)}}}
}

// N is an index with these two children.
func N(a, b int) api.Page {
	return api.Page{Kind: indexKind, Level: 1, Items: []api.Item{{Child: a}, {Key: []byte("m"), Child: b}}}
}

// long is an item with a value on pages of its own.
func long(size, child int) api.Item {
	return api.Item{Key: []byte("k"), Size: size, Child: child}
}

// short is an item in which its value stands.
func short(value string) api.Item {
	return api.Item{Key: []byte("k"), Value: []byte(value), Size: len(value)}
}

// unchanged does something, behind which all must be as it was, Mark too, and what
// Undo answers of it and of its neighbours.
func unchanged(t *testing.T, v *vault.Vault, do func()) {
	t.Helper()
	seen, mark := view.Vault(v), v.Mark()
	do()
	equal(t, "behind a call that changes nothing", view.Vault(v), seen)
	equal(t, "Mark behind it", v.Mark(), mark)
	equal(t, "Undo(Mark + 1) behind it", v.Undo(mark+1), false)
	equal(t, "Undo(Mark) behind it", v.Undo(mark), true)
	equal(t, "behind Undo(Mark)", view.Vault(v), seen)
}

// equal holds an answer against what is wanted.
func equal[T comparable](t *testing.T, what string, got, want T) {
	t.Helper()
	if got != want {
		t.Fatalf("%s: %v, want %v", what, got, want)
	}
}

func newVault(t *testing.T, pages int) *vault.Vault {
	t.Helper()
	v, e := vault.New(pages, 2)
	equal(t, "vault.New", e, 0)
	return v
}

// vaultOf is a vault with these pages, from page 1 on, all of which last, each with the
// count 1; the zero Page: it is free.
func vaultOf(t *testing.T, pages ...api.Page) *vault.Vault {
	t.Helper()
	counts, l := make([]int, len(pages)), []api.Numbered(nil)
	for i, p := range pages {
		if p.Kind != 0 {
			counts[i] = 1
			l = append(l, api.Numbered{No: i + 1, Page: p})
		}
	}
	v, e := vault.Load(3, counts, l)
	equal(t, "vault.Load", e, 0)
	return v
}

// withFree is a vault of so many pages of which just these are free; of the others some
// are Pending, some Fresh and some Held.
func withFree(t *testing.T, pages int, frees ...int) *vault.Vault {
	t.Helper()
	l := make([]api.Page, pages)
	for n := 1; n <= pages; n++ {
		if !slices.Contains(frees, n) && n%3 != 0 {
			l[n-1] = L("held")
		}
	}
	v := vaultOf(t, l...)
	for range v.Tally(free) {
		v.Make(B(9, 0))
	}
	for n := 1; n <= pages; n++ {
		if slices.Contains(frees, n) || n%3 == 1 {
			equal(t, "Drop", v.Drop(n), 0)
		}
	}
	equal(t, "Free", v.Tally(free), len(frees))
	return v
}

// These are calls that must answer so.

func stores(t *testing.T, v *vault.Vault, key, value []byte) api.Item {
	t.Helper()
	i, e := blob.Store(v, key, value)
	if e != 0 || !bytes.Equal(i.Key, key) || i.Size != len(value) {
		t.Fatalf("Store(%x, %d bytes) = %s, %d", key, len(value), view.Item(i), e)
	}
	return i
}

// storesNot: with an error the item is the zero one.
func storesNot(t *testing.T, v *vault.Vault, key, value []byte, want api.Errno) {
	t.Helper()
	i, e := blob.Store(v, key, value)
	if e != want || i.Key != nil || i.Value != nil || i.Child != 0 || i.Size != 0 {
		t.Fatalf("Store(%d bytes, %d bytes) = %s, %d; want %d", len(key), len(value), view.Item(i), e, want)
	}
}

func loads(t *testing.T, v *vault.Vault, i api.Item, want []byte) {
	t.Helper()
	if b, e := blob.Load(v, i); e != 0 || !bytes.Equal(b, want) {
		t.Fatalf("Load(%s) = %x, %d; want %x", view.Item(i), b, e, want)
	}
}

// loadsNot: with an error there is no value.
func loadsNot(t *testing.T, v *vault.Vault, i api.Item, want api.Errno) {
	t.Helper()
	if b, e := blob.Load(v, i); e != want || b != nil {
		t.Fatalf("Load(%s) = %d bytes, %d; want %d", view.Item(i), len(b), e, want)
	}
}

func releases(t *testing.T, v *vault.Vault, i api.Item, want api.Errno) {
	t.Helper()
	equal(t, "Release of "+view.Item(i), blob.Release(v, i), want)
}

func reads(t *testing.T, v *vault.Vault, n int, want api.Page) {
	t.Helper()
	p, e := v.Read(n)
	equal(t, fmt.Sprintf("Read(%d)", n), e, 0)
	equal(t, fmt.Sprintf("Read(%d)", n), view.Page(p), view.Page(want))
}

// sizes is lengths of values on both sides of each bound.
func sizes() []int {
	l := []int{0, 1, 2, inline - 1, inline, inline + 1, inline + 2, 255, 256}
	for n := 1; n <= maxValue/chunk; n++ {
		l = append(l, n*chunk-1, n*chunk, n*chunk+1)
	}
	return l[:len(l)-1]
}

// taken is how many pages a value takes, counted one by one.
func taken(size int) int {
	n := 0
	for left := size; size > inline && left > 0; left -= chunk {
		n++
	}
	return n
}
