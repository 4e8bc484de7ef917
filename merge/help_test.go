package merge_test

import (
	"bytes"
	"fmt"
	"strconv"
	"strings"
	"testing"

	"coppice/api"
	"coppice/bulk"
	"coppice/grove"
	"coppice/merge"
	"coppice/vault"
	"coppice/walk"
)

// The calls have just these types.
var (
	_ func(*vault.Vault, api.Tree, api.Tree, api.Tree) ([]api.Conflict, api.Errno)                = merge.Conflicts
	_ func(*vault.Vault, api.Tree, api.Tree, api.Tree, int) (api.Tree, []api.Conflict, api.Errno) = merge.Merge
)

// The numbers that the document names, as it names them.
const (
	lowest, greatest = -9223372036854775808, 9223372036854775807
	inline           = 32
	chunk            = 480
	maxKey           = 24
	maxValue         = 3840
	least, most      = 4, 8

	leafKind, indexKind, blobKind = 1, 2, 3
	mergeFail, byOurs, byTheirs   = 0, 1, 2

	errArg, errSpace, errRefs, errPage, errMerge = 1, 12, 13, 15, 26
)

// rules is a list, made anew each time.
func rules() []int { return []int{mergeFail, byOurs, byTheirs} }

var (
	empty   = api.Tree{}
	allKeys = api.Range{Open: true}
)

// equal holds an answer against what is wanted.
func equal[T comparable](t *testing.T, what string, got, want T) {
	t.Helper()
	if got != want {
		t.Fatalf("%s: %v, want %v", what, got, want)
	}
}

// equalConflicts holds conflicts against those that are wanted.
func equalConflicts(t *testing.T, what string, got, want []api.Conflict) {
	t.Helper()
	if told(got) != told(want) {
		t.Fatalf("%s: %.2000q, want %.2000q", what, told(got), told(want))
	}
}

func tree(root, height, items int) api.Tree {
	return api.Tree{Root: root, Height: height, Items: items}
}

func value(n int) []byte { return grove.Value(n) }

// turned is a value of which one byte is another one.
func turned(b []byte, at int) []byte {
	b = bytes.Clone(b)
	b[at]++
	return b
}

// words is pairs, such as of "a1 b22 c": a letter and its value each.
func words(text string) []api.Pair {
	var l []api.Pair
	for _, w := range strings.Fields(text) {
		l = append(l, api.Pair{Key: []byte(w[:1]), Value: []byte(w[1:])})
	}
	return l
}

func newVault(t *testing.T, pages, refs int) *vault.Vault {
	t.Helper()
	v, e := vault.New(pages, refs)
	equal(t, "vault.New", e, 0)
	return v
}

func vaultOf(t *testing.T, s *grove.Store) *vault.Vault {
	t.Helper()
	v, e := s.Vault()
	equal(t, "a vault", e, 0)
	return v
}

// built is a tree of pairs.
func built(t *testing.T, v *vault.Vault, l []api.Pair) api.Tree {
	t.Helper()
	x, e := bulk.Build(v, l)
	equal(t, "Build", e, 0)
	return x
}

// pairs is all that a tree has.
func pairs(t *testing.T, v *vault.Vault, x api.Tree) []api.Pair {
	t.Helper()
	l, e := walk.List(v, x, allKeys)
	equal(t, "walk.List", e, 0)
	return l
}

// unchanged does something, behind which all must be as it was: each count, each state and
// each page, the tallies, Mark, and what Undo answers of it and of its neighbour.
func unchanged(t *testing.T, v *vault.Vault, do func()) {
	t.Helper()
	before, mark, sums := grove.StoreFrom(v), v.Mark(), tallies(v)
	do()
	equal(t, "a page that is not as it was, behind a call that changes nothing", before.Differs(v), 0)
	equal(t, "the tallies behind it", tallies(v), sums)
	equal(t, "Mark behind it", v.Mark(), mark)
	equal(t, "Undo(Mark + 1) behind it", v.Undo(mark+1), false)
	equal(t, "Undo(Mark) behind it", v.Undo(mark), true)
	equal(t, "a page that is not as it was, behind Undo(Mark)", before.Differs(v), 0)
}

// tallies is how many pages there are of each state, and in all.
func tallies(v *vault.Vault) [6]int {
	return [6]int{v.Tally(0), v.Tally(1), v.Tally(2), v.Tally(3), v.Tally(4), v.Len()}
}

// rowsText is rows of bytes as a text; nil and no bytes are the same there.
func rowsText(s *strings.Builder, rows ...[]byte) {
	for _, b := range rows {
		s.WriteString(strconv.Itoa(len(b)))
		s.WriteByte(':')
		s.Write(b)
	}
}

// told is conflicts as a text.
func told(l []api.Conflict) string {
	var s strings.Builder
	for _, c := range l {
		fmt.Fprint(&s, " ", c.Has, "/")
		rowsText(&s, c.Key, c.Base, c.Ours, c.Theirs)
	}
	return s.String()
}

// toldPairs is pairs as a text.
func toldPairs(l []api.Pair) string {
	var s strings.Builder
	for _, x := range l {
		rowsText(&s, x.Key, x.Value)
	}
	return s.String()
}

// stand: the trees are sound, and stand together.
func stand(t *testing.T, v *vault.Vault, trees ...api.Tree) {
	t.Helper()
	for _, x := range trees {
		equal(t, fmt.Sprintf("walk.Check(%v)", x), walk.Check(v, x), 0)
	}
	for n, c := range grove.Led(v, trees...) {
		if v.Count(n) < c {
			t.Fatalf("page %d is led to %d times, its count is %d", n, c, v.Count(n))
		}
	}
}

// stayed: the trees are as they were in a store, page by page, and so have their pairs.
func stayed(t *testing.T, before *grove.Store, v *vault.Vault, trees []api.Tree) {
	t.Helper()
	for _, x := range trees {
		for n := range grove.Led(v, x) {
			p, _ := v.Read(n)
			if !grove.Same(p, before.On[n-1]) {
				t.Fatalf("page %d of %v is not as it was", n, x)
			}
		}
	}
}

// met is how often what was met.
type met map[string]int

// wants: each of these was met so many times.
func (m met) wants(t *testing.T, n int, what ...string) {
	t.Helper()
	for _, w := range what {
		if m[w] < n {
			t.Errorf("%q was met %d times", w, m[w])
		}
	}
}
