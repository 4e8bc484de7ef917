package put_test

import (
	"bytes"
	"fmt"
	"slices"
	"testing"

	"coppice/api"
	"coppice/draw"
	"coppice/grove"
	"coppice/put"
	"coppice/vault"
	"coppice/view"
	"coppice/walk"
)

// The call has just this type.
var _ func(*vault.Vault, api.Tree, []byte, []byte) (api.Tree, bool, api.Errno) = put.Put

// The numbers that the document names, as it names them.
const (
	lowest, greatest = -9223372036854775808, 9223372036854775807
	inline           = 32
	chunk            = 480
	maxKey           = 24
	maxValue         = 3840
	least, most      = 4, 8

	free, pending, fresh, held    = 1, 2, 3, 4
	leafKind, indexKind, blobKind = 1, 2, 3

	errKey, errValue, errSpace, errRefs = 7, 8, 12, 13
)

var empty = api.Tree{}

// equal holds an answer against what is wanted.
func equal[T comparable](t *testing.T, what string, got, want T) {
	t.Helper()
	if got != want {
		t.Fatalf("%s: %v, want %v", what, got, want)
	}
}

func tree(root, height, items int) api.Tree {
	return api.Tree{Root: root, Height: height, Items: items}
}

func value(n int) []byte { return grove.Value(n) }

// pagesOf is how many pages a value takes, counted one by one.
func pagesOf(value []byte) int {
	n := 0
	for left := len(value); len(value) > inline && left > 0; left -= chunk {
		n++
	}
	return n
}

func newVault(t *testing.T, pages, refs int) *vault.Vault {
	t.Helper()
	v, e := vault.New(pages, refs)
	equal(t, "vault.New", e, 0)
	return v
}

func vaultOf(t *testing.T, s *grove.Store) *vault.Vault {
	t.Helper()
	v, e := s.Vault()
	equal(t, "a vault", e, 0)
	return v
}

// keys is the keys of a page, as the chapter writes them.
func keys(t *testing.T, v *vault.Vault, n int) string {
	t.Helper()
	p, e := v.Read(n)
	equal(t, fmt.Sprintf("Read(%d)", n), e, 0)
	var l [][]byte
	for _, i := range p.Items {
		if len(i.Key) == 0 {
			i.Key = []byte("-")
		}
		l = append(l, i.Key)
	}
	return string(bytes.Join(l, []byte(" ")))
}

// leadsTo is the pages to which a page leads.
func leadsTo(t *testing.T, v *vault.Vault, n int) string {
	t.Helper()
	p, e := v.Read(n)
	equal(t, fmt.Sprintf("Read(%d)", n), e, 0)
	return fmt.Sprint(grove.LeadsTo(p))
}

// unchanged does something, behind which all must be as it was, Mark too, and what
// Undo answers of it and of its neighbours.
func unchanged(t *testing.T, v *vault.Vault, do func()) {
	t.Helper()
	seen, mark := view.Vault(v), v.Mark()
	do()
	equal(t, "behind a call that changes nothing", view.Vault(v), seen)
	equal(t, "Mark behind it", v.Mark(), mark)
	equal(t, "Undo(Mark + 1) behind it", v.Undo(mark+1), false)
	equal(t, "Undo(Mark) behind it", v.Undo(mark), true)
	equal(t, "behind Undo(Mark)", view.Vault(v), seen)
}

// pairs is all that a tree has.
func pairs(t *testing.T, v *vault.Vault, x api.Tree) []api.Pair {
	t.Helper()
	l, e := walk.List(v, x, api.Range{Open: true})
	equal(t, "walk.List", e, 0)
	return l
}

// told is pairs as a text.
func told(l []api.Pair) string {
	var s []byte
	for _, x := range l {
		s = fmt.Appendf(s, "%x=%x ", x.Key, x.Value)
	}
	return string(s)
}

// with is the pairs, with this value under this key; and whether the key was there.
func with(l []api.Pair, key, value []byte) ([]api.Pair, bool) {
	x := api.Pair{Key: key, Value: value}
	at, is := slices.BinarySearchFunc(l, key, func(x api.Pair, key []byte) int { return bytes.Compare(x.Key, key) })
	l = slices.Clone(l)
	if is {
		l[at] = x
		return l, true
	}
	return slices.Insert(l, at, x), false
}

// stand: the trees are sound, and stand together.
func stand(t *testing.T, v *vault.Vault, trees ...api.Tree) {
	t.Helper()
	for _, x := range trees {
		equal(t, fmt.Sprintf("walk.Check(%v)", x), walk.Check(v, x), 0)
	}
	for n, c := range grove.Led(v, trees...) {
		if v.Count(n) < c {
			t.Fatalf("page %d is led to %d times, its count is %d", n, c, v.Count(n))
		}
	}
}

// puts is a put that must go well, and answer so.
func puts(t *testing.T, v *vault.Vault, x api.Tree, key, value []byte, want api.Tree, had bool) api.Tree {
	t.Helper()
	got, is, e := put.Put(v, x, key, value)
	if got != want || is != had || e != 0 {
		t.Fatalf("Put(%v, %x, %d bytes) = %v, %t, %d; want %v, %t", x, key, len(value), got, is, e, want, had)
	}
	return got
}

// putsNot is a put that must answer this error, and change nothing.
func putsNot(t *testing.T, v *vault.Vault, x api.Tree, key, value []byte, want api.Errno) {
	t.Helper()
	unchanged(t, v, func() {
		got, is, e := put.Put(v, x, key, value)
		if got != empty || is || e != want {
			t.Fatalf("Put(%v, %x, %d bytes) = %v, %t, %d; want %d", x, key, len(value), got, is, e, want)
		}
	})
}

// someValue is a value of any kind; of at most so many pages, mostly.
func someValue(r *draw.Numbers, pages int) []byte {
	sizes := grove.Sizes()
	switch r.Below(4) {
	case 0:
		return value(min(sizes[r.Below(len(sizes))], pages*chunk+inline))
	case 1:
		return value(r.Below(3 * chunk))
	}
	return value(r.Below(inline + 1))
}
