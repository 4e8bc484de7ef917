package bulk_test

import (
	"bytes"
	"fmt"
	"slices"
	"strconv"
	"strings"
	"testing"

	"coppice/api"
	"coppice/bulk"
	"coppice/draw"
	"coppice/grove"
	"coppice/vault"
	"coppice/view"
	"coppice/walk"
)

// The calls have just these types.
var (
	_ func(*vault.Vault, []api.Pair) (api.Tree, api.Errno)                = bulk.Build
	_ func(*vault.Vault, api.Tree, []api.Pair) (api.Tree, int, api.Errno) = bulk.Load
	_ func(*vault.Vault, api.Tree, api.Range) (api.Tree, int, api.Errno)  = bulk.Trim
)

// The numbers that the document names, as it names them.
const (
	lowest, greatest = -9223372036854775808, 9223372036854775807
	inline           = 32
	chunk            = 480
	maxKey           = 24
	maxValue         = 3840
	maxPages         = 65536
	least, most      = 4, 8

	free, pending, fresh, held    = 1, 2, 3, 4
	leafKind, indexKind, blobKind = 1, 2, 3

	errKey, errValue, errOrder, errSpace, errRefs, errPage = 7, 8, 11, 12, 13, 15
)

var (
	empty   = api.Tree{}
	allKeys = api.Range{Open: true}
)

// equal holds an answer against what is wanted.
func equal[T comparable](t *testing.T, what string, got, want T) {
	t.Helper()
	if got != want {
		t.Fatalf("%s: %v, want %v", what, got, want)
	}
}

func tree(root, height, items int) api.Tree {
	return api.Tree{Root: root, Height: height, Items: items}
}

func value(n int) []byte { return grove.Value(n) }

// pair is a key with a value of so many bytes.
func pair(key string, size int) api.Pair { return api.Pair{Key: []byte(key), Value: value(size)} }

// letters is a pair for each letter, with values of one byte.
func letters(keys string) []api.Pair {
	var l []api.Pair
	for k := range keys {
		l = append(l, api.Pair{Key: []byte(keys[k : k+1]), Value: []byte("1")})
	}
	return l
}

// rising is n pairs whose keys rise, with short values.
func rising(n int) []api.Pair {
	var l []api.Pair
	for k := range n {
		l = append(l, api.Pair{Key: fmt.Appendf(nil, "k%06d", k), Value: []byte{byte(k)}})
	}
	return l
}

// span is the range from one key on and below another one.
func span(lo, hi string) api.Range { return api.Range{Lo: []byte(lo), Hi: []byte(hi)} }

// from is the range from a key on.
func from(lo string) api.Range { return api.Range{Lo: []byte(lo), Open: true} }

// pagesOf is how many pages a value takes, counted one by one.
func pagesOf(value []byte) int {
	n := 0
	for left := len(value); len(value) > inline && left > 0; left -= chunk {
		n++
	}
	return n
}

func newVault(t *testing.T, pages, refs int) *vault.Vault {
	t.Helper()
	v, e := vault.New(pages, refs)
	equal(t, "vault.New", e, 0)
	return v
}

func vaultOf(t *testing.T, s *grove.Store) *vault.Vault {
	t.Helper()
	v, e := s.Vault()
	equal(t, "a vault", e, 0)
	return v
}

// scattered is a store in which so many pages are free, with others of all kinds between
// them.
func scattered(r *draw.Numbers, pages int) *grove.Store {
	s := grove.StoreOf(2+r.Below(3), nil, max(1, pages+r.Below(pages+4)))
	s.Leave(r, pages)
	return s
}

// keys is the keys of a page, as the chapter writes them.
func keys(t *testing.T, v *vault.Vault, n int) string {
	t.Helper()
	p, e := v.Read(n)
	equal(t, fmt.Sprintf("Read(%d)", n), e, 0)
	var l [][]byte
	for _, i := range p.Items {
		if len(i.Key) == 0 {
			i.Key = []byte("-")
		}
		l = append(l, i.Key)
	}
	return string(bytes.Join(l, []byte(" ")))
}

// items is how many items a page has.
func items(t *testing.T, v *vault.Vault, n int) int {
	t.Helper()
	return len(strings.Fields(keys(t, v, n)))
}

// unchanged does something, behind which all must be as it was, Mark too, and what
// Undo answers of it and of its neighbours.
func unchanged(t *testing.T, v *vault.Vault, do func()) {
	t.Helper()
	seen, mark := view.Vault(v), v.Mark()
	do()
	equal(t, "behind a call that changes nothing", view.Vault(v), seen)
	equal(t, "Mark behind it", v.Mark(), mark)
	equal(t, "Undo(Mark + 1) behind it", v.Undo(mark+1), false)
	equal(t, "Undo(Mark) behind it", v.Undo(mark), true)
	equal(t, "behind Undo(Mark)", view.Vault(v), seen)
}

// pairs is all that a tree has.
func pairs(t *testing.T, v *vault.Vault, x api.Tree) []api.Pair {
	t.Helper()
	l, e := walk.List(v, x, allKeys)
	equal(t, "walk.List", e, 0)
	return l
}

// told is pairs as a text.
func told(l []api.Pair) string {
	var s strings.Builder
	for _, x := range l {
		for _, b := range [][]byte{x.Key, x.Value} {
			s.WriteString(strconv.Itoa(len(b)))
			s.WriteByte(':')
			s.Write(b)
		}
	}
	return s.String()
}

// lastValues is the last value of each key, by rising keys.
func lastValues(l []api.Pair) []api.Pair {
	var then []api.Pair
	for _, x := range l {
		at, is := slices.BinarySearchFunc(then, x.Key, func(x api.Pair, key []byte) int { return bytes.Compare(x.Key, key) })
		if is {
			then[at] = x
		} else {
			then = slices.Insert(then, at, x)
		}
	}
	return then
}

// lies: does a key lie in a range?
func lies(r api.Range, key []byte) bool {
	return string(key) >= string(r.Lo) && (r.Open || string(key) < string(r.Hi))
}

// stand: the trees are sound, and stand together.
func stand(t *testing.T, v *vault.Vault, trees ...api.Tree) {
	t.Helper()
	for _, x := range trees {
		equal(t, fmt.Sprintf("walk.Check(%v)", x), walk.Check(v, x), 0)
	}
	for n, c := range grove.Led(v, trees...) {
		if v.Count(n) < c {
			t.Fatalf("page %d is led to %d times, its count is %d", n, c, v.Count(n))
		}
	}
}

// seen is trees as they look from outside: the pages of each with what stands on them, and
// its pairs.
func seen(t *testing.T, v *vault.Vault, trees []api.Tree) string {
	t.Helper()
	var text strings.Builder
	for _, x := range trees {
		text.WriteString(told(pairs(t, v, x)))
		led := grove.Led(v, x)
		for n := 1; n <= v.Len(); n++ {
			if led[n] > 0 {
				p, _ := v.Read(n)
				fmt.Fprint(&text, "; ", n, " ", view.Page(p))
			}
		}
		text.WriteString("\n")
	}
	return text.String()
}

// again: what was done behind the mark can be undone, and done again, all of it alike.
func again(t *testing.T, before, then *grove.Store, v *vault.Vault, mark int, do func() api.Errno) {
	t.Helper()
	equal(t, "Mark is not below what it was", v.Mark() >= mark, true)
	equal(t, "Undo", v.Undo(mark), true)
	equal(t, "a page that is not as it was, behind Undo", before.Differs(v), 0)
	equal(t, "the second time", do(), 0)
	equal(t, "a page that is another one the second time", then.Differs(v), 0)
}

// kept: what lasts stands where it stood.
func kept(t *testing.T, before *grove.Store, v *vault.Vault) {
	t.Helper()
	then := grove.StoreFrom(v)
	for k := range before.Lasts {
		if before.Lasts[k] == 1 && (then.Lasts[k] != 1 || !grove.Same(then.On[k], before.On[k])) {
			t.Fatalf("what lasts on page %d: %s, it was %s", k+1, view.Page(then.On[k]), view.Page(before.On[k]))
		}
	}
}

// marks is what a vault was at some marks, by which it is looked at later whether they are
// good still.
type marks []struct {
	mark int
	was  *grove.Store
}

// add keeps what the vault is now.
func (l *marks) add(v *vault.Vault) {
	*l = append(*l, marks{{v.Mark(), grove.StoreFrom(v)}}...)
}

// good: Undo goes back to each of them, the last one first.
func (l marks) good(t *testing.T, v *vault.Vault) {
	t.Helper()
	for _, x := range slices.Backward(l) {
		equal(t, "Undo of a mark that was made ahead", v.Undo(x.mark), true)
		equal(t, "Mark", v.Mark(), x.mark)
		equal(t, "a page that is not as it was at the mark", x.was.Differs(v), 0)
	}
}

// met is how often what was met.
type met map[string]int

// wants: each of these was met so many times.
func (m met) wants(t *testing.T, n int, what ...string) {
	t.Helper()
	for _, w := range what {
		if m[w] < n {
			t.Errorf("%q was met %d times", w, m[w])
		}
	}
}
