package cursor_test

import (
	"bytes"
	"slices"
	"strconv"
	"testing"

	"coppice/api"
	"coppice/bulk"
	"coppice/cursor"
	"coppice/grove"
	"coppice/vault"
	"coppice/view"
)

// The calls have just these types.
var (
	_ func(*vault.Vault, api.Tree) *cursor.Cursor = cursor.New
	_ interface {
		Next() bool
		Prev() bool
		Seek([]byte) bool
		First() bool
		Last() bool
		At() (api.Pair, bool)
		Move(api.Tree)
		Err() api.Errno
	} = (*cursor.Cursor)(nil)
)

// The numbers that the document names, as it names them.
const (
	lowest, greatest = -9223372036854775808, 9223372036854775807
	maxKey           = 24
	maxValue         = 3840
	chunk            = 480
	inline           = 32

	free, pending = 1, 2

	errPage = 15
)

var empty = api.Tree{}

// equal holds an answer against what is wanted.
func equal[T comparable](t *testing.T, what string, got, want T) {
	t.Helper()
	if got != want {
		t.Fatalf("%s: %v, want %v", what, got, want)
	}
}

func tree(root, height, items int) api.Tree {
	return api.Tree{Root: root, Height: height, Items: items}
}

func newVault(t *testing.T, pages, refs int) *vault.Vault {
	t.Helper()
	v, e := vault.New(pages, refs)
	equal(t, "vault.New", e, 0)
	return v
}

func vaultOf(t *testing.T, s *grove.Store) *vault.Vault {
	t.Helper()
	v, e := s.Vault()
	equal(t, "a vault", e, 0)
	return v
}

// unchanged does something, behind which all must be as it was, Mark too, and what
// Undo answers of it and of its neighbours.
func unchanged(t *testing.T, v *vault.Vault, do func()) {
	t.Helper()
	seen, mark := view.Vault(v), v.Mark()
	do()
	equal(t, "behind a call that changes nothing", view.Vault(v), seen)
	equal(t, "Mark behind it", v.Mark(), mark)
	equal(t, "Undo(Mark + 1) behind it", v.Undo(mark+1), false)
	equal(t, "Undo(Mark) behind it", v.Undo(mark), true)
	equal(t, "behind Undo(Mark)", view.Vault(v), seen)
}

// told is a pair as a text.
func told(x api.Pair) string {
	return strconv.Quote(string(x.Key)) + " " + strconv.Quote(string(x.Value))
}

// known is a tree with the pairs that it has, by rising keys.
type known struct {
	tree  api.Tree
	pairs []api.Pair
	gone  bool
}

// nothing is the empty tree.
func nothing() known { return known{} }

// of is a tree that was made by hand.
func of(g *grove.Grown) known { return known{tree: g.Tree, pairs: g.Pairs} }

// built is a tree of these pairs, by rising keys.
func built(t *testing.T, v *vault.Vault, l []api.Pair) known {
	t.Helper()
	x, e := bulk.Build(v, l)
	equal(t, "bulk.Build", e, 0)
	return known{tree: x, pairs: l}
}

// letters is a pair for each letter, its value being the letter twice.
func letters(keys string) []api.Pair {
	var l []api.Pair
	for k := range keys {
		l = append(l, api.Pair{Key: []byte{keys[k]}, Value: []byte{keys[k], keys[k]}})
	}
	return l
}

// with is pairs by rising keys with one more, or with another value of its key.
func with(l []api.Pair, x api.Pair) []api.Pair {
	return slices.SortedFunc(slices.Values(append(without(l, x.Key), x)), func(a, b api.Pair) int { return bytes.Compare(a.Key, b.Key) })
}

// without is pairs but the one of a key.
func without(l []api.Pair, key []byte) []api.Pair {
	return slices.DeleteFunc(slices.Clone(l), func(x api.Pair) bool { return bytes.Equal(x.Key, key) })
}

// edges is keys that come next to one another as near as keys can, by rising keys.
func edges() [][]byte {
	row := func(begin string, n int, b byte) []byte {
		return append([]byte(begin), bytes.Repeat([]byte{b}, n-len(begin))...)
	}
	return [][]byte{
		{0}, {0, 0}, row("", maxKey, 0), append(row("", maxKey-1, 0), 1), {1},
		row("a", maxKey, 0xff), []byte("b"), []byte("b\x00"), row("b", maxKey, 0), append(row("b", maxKey-1, 0), 1),
		row("b\xff", maxKey-1, 0), row("b\xff", maxKey, 0), row("b", maxKey, 0xff), []byte("c"),
		{0xff}, {0xff, 0}, row("", maxKey-1, 0xff), append(row("", maxKey-1, 0xff), 0), append(row("", maxKey-1, 0xff), 0xfe), row("", maxKey, 0xff),
	}
}

// met is how often what was met.
type met map[string]int

// wants: each of these was met so many times.
func (m met) wants(t *testing.T, n int, what ...string) {
	t.Helper()
	for _, w := range what {
		if m[w] < n {
			t.Errorf("%q was met %d times", w, m[w])
		}
	}
}
