package fork_test

import (
	"fmt"
	"slices"
	"strconv"
	"strings"
	"testing"

	"coppice/api"
	"coppice/fork"
	"coppice/grove"
	"coppice/put"
	"coppice/vault"
	"coppice/view"
	"coppice/walk"
)

// The calls have just these types.
var (
	_ func(*vault.Vault, api.Tree) (api.Tree, api.Errno)           = fork.Clone
	_ func(*vault.Vault, api.Tree) api.Errno                       = fork.Drop
	_ func(*vault.Vault, ...api.Tree) ([]int, api.Errno)           = fork.Counts
	_ func(*vault.Vault, api.Tree) ([]int, api.Errno)              = fork.Reach
	_ func(*vault.Vault, api.Tree, ...api.Tree) ([]int, api.Errno) = fork.Only
	_ func(*vault.Vault, api.Tree) (int, api.Errno)                = fork.Freed
)

// The numbers that the document names, as it names them.
const (
	lowest, greatest = -9223372036854775808, 9223372036854775807
	inline           = 32
	chunk            = 480
	maxValue         = 3840
	maxRefs          = 65535

	free, pending, fresh, held    = 1, 2, 3, 4
	leafKind, indexKind, blobKind = 1, 2, 3

	errRefs, errPage = 13, 15
)

var empty = api.Tree{}

// equal holds an answer against what is wanted.
func equal[T comparable](t *testing.T, what string, got, want T) {
	t.Helper()
	if got != want {
		t.Fatalf("%s: %v, want %v", what, got, want)
	}
}

func equalLists(t *testing.T, what string, got, want []int) {
	t.Helper()
	if !slices.Equal(got, want) {
		t.Fatalf("%s: %v, want %v", what, got, want)
	}
}

func tree(root, height, items int) api.Tree {
	return api.Tree{Root: root, Height: height, Items: items}
}

// L is a leaf with these letters as keys, each with the value of no byte.
func L(letters string) api.Page {
	p := api.Page{Kind: leafKind}
	for _, k := range []byte(letters) {
		p.Items = append(p.Items, api.Item{Key: []byte{k}})
	}
	return p
}

// V is a leaf with these letters as keys, the first one's value standing on pages, this
// one the first of them.
func V(letters string, size, child int) api.Page {
	p := L(letters)
	p.Items[0].Size, p.Items[0].Child = size, child
	return p
}

// N is an index of the level 1 over two leaves, m between them.
func N(x, y int) api.Page {
	return api.Page{Kind: indexKind, Level: 1, Items: []api.Item{{Child: x}, {Key: []byte("m"), Child: y}}}
}

// B is a blob of so many bytes.
func B(size, next int) api.Page {
	return api.Page{Kind: blobKind, Data: grove.Value(size), Next: next}
}

func newVault(t *testing.T, pages, refs int) *vault.Vault {
	t.Helper()
	v, e := vault.New(pages, refs)
	equal(t, "vault.New", e, 0)
	return v
}

func vaultOf(t *testing.T, s *grove.Store) *vault.Vault {
	t.Helper()
	v, e := s.Vault()
	equal(t, "a vault", e, 0)
	return v
}

// lay is a vault of pages with these counts, none of which lasts, or all.
func lay(t *testing.T, refs, lasts int, counts []int, pages ...api.Page) *vault.Vault {
	t.Helper()
	s := grove.StoreOf(refs, pages, 0)
	for k := range pages {
		s.Counts[k], s.Lasts[k] = counts[k], lasts*min(counts[k], 1)
	}
	return vaultOf(t, s)
}

// states is a state for each page, from page 1 on.
func states(v *vault.Vault) []int {
	var l []int
	for n := 1; n <= v.Len(); n++ {
		l = append(l, v.State(n))
	}
	return l
}

// unchanged does something, behind which all must be as it was, Mark too, and what
// Undo answers of it and of its neighbours.
func unchanged(t *testing.T, v *vault.Vault, do func()) {
	t.Helper()
	seen, mark := view.Vault(v), v.Mark()
	do()
	equal(t, "behind a call that changes nothing", view.Vault(v), seen)
	equal(t, "Mark behind it", v.Mark(), mark)
	equal(t, "Undo(Mark + 1) behind it", v.Undo(mark+1), false)
	equal(t, "Undo(Mark) behind it", v.Undo(mark), true)
	equal(t, "behind Undo(Mark)", view.Vault(v), seen)
}

// pairs is all that a tree has.
func pairs(t *testing.T, v *vault.Vault, x api.Tree) []api.Pair {
	t.Helper()
	l, e := walk.List(v, x, api.Range{Open: true})
	equal(t, "walk.List", e, 0)
	return l
}

// told is pairs as a text.
func told(l []api.Pair) string {
	var s strings.Builder
	for _, x := range l {
		for _, b := range [][]byte{x.Key, x.Value} {
			s.WriteString(strconv.Itoa(len(b)))
			s.WriteByte(':')
			s.Write(b)
		}
	}
	return s.String()
}

// stand: the trees are sound, and stand together.
func stand(t *testing.T, v *vault.Vault, trees ...api.Tree) {
	t.Helper()
	for _, x := range trees {
		equal(t, fmt.Sprintf("walk.Check(%v)", x), walk.Check(v, x), 0)
	}
	for n, c := range grove.Led(v, trees...) {
		if v.Count(n) < c {
			t.Fatalf("page %d is led to %d times, its count is %d", n, c, v.Count(n))
		}
	}
}

// putAll is a tree into which these pairs are put.
func putAll(t *testing.T, v *vault.Vault, x api.Tree, l ...api.Pair) api.Tree {
	t.Helper()
	for _, p := range l {
		y, _, e := put.Put(v, x, p.Key, p.Value)
		equal(t, "Put", e, 0)
		x = y
	}
	return x
}

// counts is a Counts that must go well.
func counts(t *testing.T, v *vault.Vault, l ...api.Tree) []int {
	t.Helper()
	c, e := fork.Counts(v, l...)
	equal(t, fmt.Sprintf("Counts(%v)", l), e, 0)
	equal(t, "a count for each page", len(c), v.Len())
	return c
}

// only is an Only that must go well; without others it is what Reach tells.
func only(t *testing.T, v *vault.Vault, x api.Tree, others ...api.Tree) []int {
	t.Helper()
	l, e := fork.Only(v, x, others...)
	equal(t, fmt.Sprintf("Only(%v, %v)", x, others), e, 0)
	return l
}

func reach(t *testing.T, v *vault.Vault, x api.Tree) []int {
	t.Helper()
	l, e := fork.Reach(v, x)
	equal(t, fmt.Sprintf("Reach(%v)", x), e, 0)
	return l
}

func freed(t *testing.T, v *vault.Vault, x api.Tree) int {
	t.Helper()
	n, e := fork.Freed(v, x)
	equal(t, fmt.Sprintf("Freed(%v)", x), e, 0)
	return n
}
