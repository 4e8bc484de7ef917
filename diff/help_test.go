package diff_test

import (
	"bytes"
	"fmt"
	"iter"
	"slices"
	"strconv"
	"strings"
	"testing"

	"coppice/api"
	"coppice/bulk"
	"coppice/diff"
	"coppice/grove"
	"coppice/vault"
	"coppice/view"
	"coppice/walk"
)

// The calls have just these types.
var (
	_ func(*vault.Vault, api.Tree, api.Tree, api.Range) ([]api.Change, api.Errno) = diff.List
	_ func(*vault.Vault, api.Tree, api.Tree) iter.Seq[api.Change]                 = diff.Walk
	_ func(*vault.Vault, api.Tree, api.Tree) ([]int, api.Errno)                   = diff.Read
	_ func(*vault.Vault, api.Tree, []api.Change) (api.Tree, api.Errno)            = diff.Apply
	_ func([]api.Change) []api.Change                                             = diff.Turn
)

// The numbers that the document names, as it names them.
const (
	lowest, greatest = -9223372036854775808, 9223372036854775807
	inline           = 32
	chunk            = 480
	maxKey           = 24
	maxValue         = 3840
	least, most      = 4, 8

	free, pending, fresh, held    = 1, 2, 3, 4
	leafKind, indexKind, blobKind = 1, 2, 3
	added, removed, changed       = 1, 2, 3

	errKey, errValue, errSpace, errRefs, errPage, errStale, errKind = 7, 8, 12, 13, 15, 20, 22
)

var (
	empty   = api.Tree{}
	allKeys = api.Range{Open: true}
)

// equal holds an answer against what is wanted.
func equal[T comparable](t *testing.T, what string, got, want T) {
	t.Helper()
	if got != want {
		t.Fatalf("%s: %v, want %v", what, got, want)
	}
}

func equalLists(t *testing.T, what string, got, want []int) {
	t.Helper()
	if !slices.Equal(got, want) {
		t.Fatalf("%s: %v, want %v", what, got, want)
	}
}

// equalChanges holds changes against those that are wanted.
func equalChanges(t *testing.T, what string, got, want []api.Change) {
	t.Helper()
	if told(got) != told(want) {
		t.Fatalf("%s: %.2000q, want %.2000q", what, told(got), told(want))
	}
}

func tree(root, height, items int) api.Tree {
	return api.Tree{Root: root, Height: height, Items: items}
}

func value(n int) []byte { return grove.Value(n) }

// turned is a value of which one byte is another one.
func turned(b []byte, at int) []byte {
	b = bytes.Clone(b)
	b[at]++
	return b
}

// span is the range from one key on and below another one.
func span(lo, hi string) api.Range { return api.Range{Lo: []byte(lo), Hi: []byte(hi)} }

// from is the range from a key on.
func from(lo string) api.Range { return api.Range{Lo: []byte(lo), Open: true} }

// text is a range as the document writes it.
func text(r api.Range) string {
	if r.Open {
		return fmt.Sprintf("[%q, ..", r.Lo)
	}
	return fmt.Sprintf("[%q, %q)", r.Lo, r.Hi)
}

// lies: does a key lie in a range?
func lies(r api.Range, key []byte) bool {
	return string(key) >= string(r.Lo) && (r.Open || string(key) < string(r.Hi))
}

// in are the changes whose keys lie in a range.
func in(l []api.Change, r api.Range) []api.Change {
	var some []api.Change
	for _, c := range l {
		if lies(r, c.Key) {
			some = append(some, c)
		}
	}
	return some
}

// letters is pairs, each a letter and its value of one byte, one behind the other.
func letters(text string) []api.Pair {
	var l []api.Pair
	for k := 0; k < len(text); k += 2 {
		l = append(l, api.Pair{Key: []byte(text[k : k+1]), Value: []byte(text[k+1 : k+2])})
	}
	return l
}

// change is a change of texts.
func change(kind int, key, old, now string) api.Change {
	return api.Change{Kind: kind, Key: []byte(key), Old: []byte(old), New: []byte(now)}
}

func newVault(t *testing.T, pages, refs int) *vault.Vault {
	t.Helper()
	v, e := vault.New(pages, refs)
	equal(t, "vault.New", e, 0)
	return v
}

func vaultOf(t *testing.T, s *grove.Store) *vault.Vault {
	t.Helper()
	v, e := s.Vault()
	equal(t, "a vault", e, 0)
	return v
}

// built is a tree of pairs.
func built(t *testing.T, v *vault.Vault, l []api.Pair) api.Tree {
	t.Helper()
	x, e := bulk.Build(v, l)
	equal(t, "Build", e, 0)
	return x
}

// list is a List that must go well, and tell nothing that its kind does not use.
func list(t *testing.T, v *vault.Vault, a, b api.Tree, r api.Range) []api.Change {
	t.Helper()
	l, e := diff.List(v, a, b, r)
	equal(t, fmt.Sprintf("List(%v, %v, %s)", a, b, text(r)), e, 0)
	for _, c := range l {
		if c.Kind == added && len(c.Old) > 0 || c.Kind == removed && len(c.New) > 0 {
			t.Fatalf("List(%v, %v): what a change does not use: %s", a, b, told([]api.Change{c}))
		}
	}
	return l
}

// read is a Read that must go well.
func read(t *testing.T, v *vault.Vault, a, b api.Tree) []int {
	t.Helper()
	l, e := diff.Read(v, a, b)
	equal(t, fmt.Sprintf("Read(%v, %v)", a, b), e, 0)
	return l
}

// unchanged does something, behind which all must be as it was, Mark too, and what
// Undo answers of it and of its neighbours.
func unchanged(t *testing.T, v *vault.Vault, do func()) {
	t.Helper()
	seen, mark := view.Vault(v), v.Mark()
	do()
	equal(t, "behind a call that changes nothing", view.Vault(v), seen)
	equal(t, "Mark behind it", v.Mark(), mark)
	equal(t, "Undo(Mark + 1) behind it", v.Undo(mark+1), false)
	equal(t, "Undo(Mark) behind it", v.Undo(mark), true)
	equal(t, "behind Undo(Mark)", view.Vault(v), seen)
}

// pairs is all that a tree has.
func pairs(t *testing.T, v *vault.Vault, x api.Tree) []api.Pair {
	t.Helper()
	l, e := walk.List(v, x, allKeys)
	equal(t, "walk.List", e, 0)
	return l
}

// rowsText is rows of bytes as a text; nil and no bytes are the same there.
func rowsText(s *strings.Builder, rows ...[]byte) {
	for _, b := range rows {
		s.WriteString(strconv.Itoa(len(b)))
		s.WriteByte(':')
		s.Write(b)
	}
}

// told is changes as a text.
func told(l []api.Change) string {
	var s strings.Builder
	for _, c := range l {
		s.WriteString(" " + strconv.Itoa(c.Kind) + "/")
		rowsText(&s, c.Key, c.Old, c.New)
	}
	return s.String()
}

// toldPairs is pairs as a text.
func toldPairs(l []api.Pair) string {
	var s strings.Builder
	for _, x := range l {
		rowsText(&s, x.Key, x.Value)
	}
	return s.String()
}

// copied is changes in memory of their own.
func copied(l []api.Change) []api.Change {
	var own []api.Change
	for _, c := range l {
		own = append(own, api.Change{Kind: c.Kind, Key: slices.Clone(c.Key), Old: slices.Clone(c.Old), New: slices.Clone(c.New)})
	}
	return own
}

// stand: the trees are sound, and stand together.
func stand(t *testing.T, v *vault.Vault, trees ...api.Tree) {
	t.Helper()
	for _, x := range trees {
		equal(t, fmt.Sprintf("walk.Check(%v)", x), walk.Check(v, x), 0)
	}
	for n, c := range grove.Led(v, trees...) {
		if v.Count(n) < c {
			t.Fatalf("page %d is led to %d times, its count is %d", n, c, v.Count(n))
		}
	}
}

// seen is trees as they look from outside: the pages of each with what stands on them, and
// its pairs.
func seen(t *testing.T, v *vault.Vault, trees []api.Tree) string {
	t.Helper()
	var text strings.Builder
	for _, x := range trees {
		text.WriteString(toldPairs(pairs(t, v, x)))
		led := grove.Led(v, x)
		for n := 1; n <= v.Len(); n++ {
			if led[n] > 0 {
				p, _ := v.Read(n)
				fmt.Fprint(&text, "; ", n, " ", view.Page(p))
			}
		}
		text.WriteString("\n")
	}
	return text.String()
}

// met is how often what was met.
type met map[string]int

// wants: each of these was met so many times.
func (m met) wants(t *testing.T, n int, what ...string) {
	t.Helper()
	for _, w := range what {
		if m[w] < n {
			t.Errorf("%q was met %d times", w, m[w])
		}
	}
}
