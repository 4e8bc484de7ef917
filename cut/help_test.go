package cut_test

import (
	"bytes"
	"fmt"
	"slices"
	"testing"

	"coppice/api"
	"coppice/cut"
	"coppice/grove"
	"coppice/put"
	"coppice/vault"
	"coppice/view"
	"coppice/walk"
)

// The call has just this type.
var _ func(*vault.Vault, api.Tree, []byte) (api.Tree, bool, api.Errno) = cut.Cut

// The numbers that the document names, as it names them.
const (
	lowest, greatest = -9223372036854775808, 9223372036854775807
	inline           = 32
	chunk            = 480
	maxKey           = 24
	maxValue         = 3840
	least            = 4

	free, pending, fresh, held    = 1, 2, 3, 4
	leafKind, indexKind, blobKind = 1, 2, 3

	errKey, errSpace, errRefs = 7, 12, 13
)

var empty = api.Tree{}

// equal holds an answer against what is wanted.
func equal[T comparable](t *testing.T, what string, got, want T) {
	t.Helper()
	if got != want {
		t.Fatalf("%s: %v, want %v", what, got, want)
	}
}

func tree(root, height, items int) api.Tree {
	return api.Tree{Root: root, Height: height, Items: items}
}

func value(n int) []byte { return grove.Value(n) }

// pagesOf is how many pages a value takes, counted one by one.
func pagesOf(value []byte) int {
	n := 0
	for left := len(value); len(value) > inline && left > 0; left -= chunk {
		n++
	}
	return n
}

func newVault(t *testing.T, pages, refs int) *vault.Vault {
	t.Helper()
	v, e := vault.New(pages, refs)
	equal(t, "vault.New", e, 0)
	return v
}

func vaultOf(t *testing.T, s *grove.Store) *vault.Vault {
	t.Helper()
	v, e := s.Vault()
	equal(t, "a vault", e, 0)
	return v
}

// grown is a tree of these letters, each put in with the value of no byte.
func grown(t *testing.T, v *vault.Vault, letters string) api.Tree {
	t.Helper()
	x := empty
	for _, k := range []byte(letters) {
		y, _, e := put.Put(v, x, []byte{k}, nil)
		equal(t, "Put", e, 0)
		x = y
	}
	return x
}

// letters is n pairs of keys of one byte, with room between them for others.
func letters(n int) []api.Pair {
	var l []api.Pair
	for k := range n {
		l = append(l, api.Pair{Key: []byte{byte(2*k + 2)}, Value: []byte{byte(k)}})
	}
	return l
}

// keys is the keys of a page, as the chapter writes them.
func keys(t *testing.T, v *vault.Vault, n int) string {
	t.Helper()
	p, e := v.Read(n)
	equal(t, fmt.Sprintf("Read(%d)", n), e, 0)
	var l [][]byte
	for _, i := range p.Items {
		if len(i.Key) == 0 {
			i.Key = []byte("-")
		}
		l = append(l, i.Key)
	}
	return string(bytes.Join(l, []byte(" ")))
}

// leadsTo is the pages to which a page leads.
func leadsTo(t *testing.T, v *vault.Vault, n int) string {
	t.Helper()
	p, e := v.Read(n)
	equal(t, fmt.Sprintf("Read(%d)", n), e, 0)
	return fmt.Sprint(grove.LeadsTo(p))
}

// unchanged does something, behind which all must be as it was, Mark too, and what
// Undo answers of it and of its neighbours.
func unchanged(t *testing.T, v *vault.Vault, do func()) {
	t.Helper()
	seen, mark := view.Vault(v), v.Mark()
	do()
	equal(t, "behind a call that changes nothing", view.Vault(v), seen)
	equal(t, "Mark behind it", v.Mark(), mark)
	equal(t, "Undo(Mark + 1) behind it", v.Undo(mark+1), false)
	equal(t, "Undo(Mark) behind it", v.Undo(mark), true)
	equal(t, "behind Undo(Mark)", view.Vault(v), seen)
}

// pairs is all that a tree has.
func pairs(t *testing.T, v *vault.Vault, x api.Tree) []api.Pair {
	t.Helper()
	l, e := walk.List(v, x, api.Range{Open: true})
	equal(t, "walk.List", e, 0)
	return l
}

// told is pairs as a text.
func told(l []api.Pair) string {
	var s []byte
	for _, x := range l {
		s = fmt.Appendf(s, "%x=%x ", x.Key, x.Value)
	}
	return string(s)
}

// without is the pairs but the one of this key; and whether there was one.
func without(l []api.Pair, key []byte) ([]api.Pair, bool) {
	at, is := slices.BinarySearchFunc(l, key, func(x api.Pair, key []byte) int { return bytes.Compare(x.Key, key) })
	if !is {
		return l, false
	}
	return slices.Delete(slices.Clone(l), at, at+1), true
}

// stand: the trees are sound, and stand together.
func stand(t *testing.T, v *vault.Vault, trees ...api.Tree) {
	t.Helper()
	for _, x := range trees {
		equal(t, fmt.Sprintf("walk.Check(%v)", x), walk.Check(v, x), 0)
	}
	for n, c := range grove.Led(v, trees...) {
		if v.Count(n) < c {
			t.Fatalf("page %d is led to %d times, its count is %d", n, c, v.Count(n))
		}
	}
}

// isAll: the counts are right, if there is nothing in the vault but these trees.
func isAll(t *testing.T, v *vault.Vault, trees ...api.Tree) {
	t.Helper()
	led := grove.Led(v, trees...)
	for n := 1; n <= v.Len(); n++ {
		if v.Count(n) != led[n] {
			t.Fatalf("page %d is led to %d times, its count is %d", n, led[n], v.Count(n))
		}
	}
}

// cuts is a cut of a key that is there, that must go well, and answer so.
func cuts(t *testing.T, v *vault.Vault, x api.Tree, key string, want api.Tree) api.Tree {
	t.Helper()
	got, is, e := cut.Cut(v, x, []byte(key))
	if got != want || !is || e != 0 {
		t.Fatalf("Cut(%v, %x) = %v, %t, %d; want %v", x, key, got, is, e, want)
	}
	return got
}

// cutsNot is a cut that must answer this error, and change nothing; without an error the
// key is not there.
func cutsNot(t *testing.T, v *vault.Vault, x api.Tree, key []byte, want api.Errno) {
	t.Helper()
	wantTree := x
	if want != 0 {
		wantTree = empty
	}
	unchanged(t, v, func() {
		got, is, e := cut.Cut(v, x, key)
		if got != wantTree || is || e != want {
			t.Fatalf("Cut(%v, %x) = %v, %t, %d; want %v, %d", x, key, got, is, e, wantTree, want)
		}
	})
}
