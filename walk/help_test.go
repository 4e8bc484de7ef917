package walk_test

import (
	"bytes"
	"fmt"
	"iter"
	"slices"
	"strings"
	"testing"

	"coppice/api"
	"coppice/grove"
	"coppice/vault"
	"coppice/view"
	"coppice/walk"
)

// The calls have just these types.
var (
	_ func(*vault.Vault, api.Tree, []byte) ([]byte, bool, api.Errno)    = walk.Get
	_ func(*vault.Vault, api.Tree, api.Range) iter.Seq2[[]byte, []byte] = walk.Scan
	_ func(*vault.Vault, api.Tree, api.Range) iter.Seq2[[]byte, []byte] = walk.Back
	_ func(*vault.Vault, api.Tree, api.Range) ([]api.Pair, api.Errno)   = walk.List
	_ func(*vault.Vault, api.Tree, []byte) (api.Pair, bool, api.Errno)  = walk.Ceil
	_ func(*vault.Vault, api.Tree, []byte) (api.Pair, bool, api.Errno)  = walk.Floor
	_ func(*vault.Vault, api.Tree, []byte) ([]int, api.Errno)           = walk.Path
	_ func(*vault.Vault, api.Tree) api.Errno                            = walk.Check
)

// The numbers that the document names, as it names them.
const (
	lowest, greatest = -9223372036854775808, 9223372036854775807
	inline           = 32
	chunk            = 480
	maxKey           = 24
	maxValue         = 3840
	maxHeight        = 12
	least, most      = 4, 8

	free, pending, fresh, held    = 1, 2, 3, 4
	leafKind, indexKind, blobKind = 1, 2, 3

	errMany, errForm, errKey, errOrder, errPage = 4, 5, 7, 11, 15
)

var empty = api.Tree{}

// equal holds an answer against what is wanted.
func equal[T comparable](t *testing.T, what string, got, want T) {
	t.Helper()
	if got != want {
		t.Fatalf("%s: %v, want %v", what, got, want)
	}
}

// leaf is a leaf with these letters as keys, the value of each one its letter doubled.
func leaf(letters string) api.Page {
	p := api.Page{Kind: leafKind}
	for _, k := range []byte(letters) {
		p.Items = append(p.Items, short(string(k), string([]byte{k, k})))
	}
	return p
}

// short is an item with its value in it.
func short(key, value string) api.Item {
	return api.Item{Key: []byte(key), Value: []byte(value), Size: len(value)}
}

// long is an item with its value on pages of its own.
func long(key string, size, child int) api.Item {
	return api.Item{Key: []byte(key), Size: size, Child: child}
}

// leafOf is a leaf with these items.
func leafOf(items ...api.Item) api.Page { return api.Page{Kind: leafKind, Items: items} }

// index is an index over these children; separators are letters, one fewer than they.
func index(level int, separators string, children ...int) api.Page {
	p := api.Page{Kind: indexKind, Level: level}
	for k, c := range children {
		i := api.Item{Child: c}
		if k > 0 {
			i.Key = []byte{separators[k-1]}
		}
		p.Items = append(p.Items, i)
	}
	return p
}

// part is a blob of n bytes that leads on to next.
func part(n, next int) api.Page {
	return api.Page{Kind: blobKind, Data: bytes.Repeat([]byte{7}, n), Next: next}
}

// two is the chapter's tree.
func two(t *testing.T) (*vault.Vault, api.Tree) {
	t.Helper()
	return heldPages(t, leaf("aceg"), leaf("mprtv"), index(1, "m", 1, 2)), api.Tree{Root: 3, Height: 2, Items: 9}
}

// heldPages is a vault with these pages, from page 1 on, all of which last, each with
// the count 1; the zero Page: it is free.
func heldPages(t *testing.T, pages ...api.Page) *vault.Vault {
	t.Helper()
	counts, l := make([]int, len(pages)), []api.Numbered(nil)
	for k, p := range pages {
		if p.Kind != 0 {
			counts[k] = 1
			l = append(l, api.Numbered{No: k + 1, Page: p})
		}
	}
	v, e := vault.Load(9, counts, l)
	equal(t, "vault.Load", e, 0)
	return v
}

// freshPages is the same, but nothing of it lasts.
func freshPages(t *testing.T, pages ...api.Page) *vault.Vault {
	t.Helper()
	v, e := vault.New(len(pages), 9)
	equal(t, "vault.New", e, 0)
	for k, p := range pages {
		if p.Kind == 0 {
			p = leaf("x")
		}
		n, e := v.Make(p)
		equal(t, "Make", e, 0)
		equal(t, "Make", n, k+1)
	}
	for k, p := range pages {
		if p.Kind == 0 {
			equal(t, "Drop", v.Drop(k+1), 0)
		}
	}
	return v
}

// unchanged does something, behind which all must be as it was, Mark too, and what
// Undo answers of it and of its neighbours.
func unchanged(t *testing.T, v *vault.Vault, do func()) {
	t.Helper()
	seen, mark := view.Vault(v), v.Mark()
	do()
	equal(t, "behind a call that changes nothing", view.Vault(v), seen)
	equal(t, "Mark behind it", v.Mark(), mark)
	equal(t, "Undo(Mark + 1) behind it", v.Undo(mark+1), false)
	equal(t, "Undo(Mark) behind it", v.Undo(mark), true)
	equal(t, "behind Undo(Mark)", view.Vault(v), seen)
}

// all is the range of all keys.
func all() api.Range { return api.Range{Open: true} }

// to is the range from lo on and below hi, from the one that has no end.
func to(lo, hi string) api.Range { return api.Range{Lo: []byte(lo), Hi: []byte(hi)} }
func from(lo string) api.Range   { return api.Range{Lo: []byte(lo), Open: true} }

func show(r api.Range) string {
	if r.Open {
		return fmt.Sprintf("[%x, ..", r.Lo)
	}
	return fmt.Sprintf("[%x, %x)", r.Lo, r.Hi)
}

// told is the pairs that a walk tells.
func told(walk iter.Seq2[[]byte, []byte]) []api.Pair {
	var l []api.Pair
	for k, x := range walk {
		l = append(l, api.Pair{Key: k, Value: x})
	}
	return l
}

// words is pairs as the chapter writes them.
func words(l []api.Pair) string {
	var s []string
	for _, x := range l {
		s = append(s, string(x.Key)+" "+string(x.Value))
	}
	return strings.Join(s, ", ")
}

func samePair(a, b api.Pair) bool {
	return bytes.Equal(a.Key, b.Key) && bytes.Equal(a.Value, b.Value)
}

// equalPairs holds pairs against those that are wanted.
func equalPairs(t *testing.T, what string, got, want []api.Pair) {
	t.Helper()
	if !slices.EqualFunc(got, want, samePair) {
		t.Fatalf("%s: %d pairs, %.200q; want %d, %.200q", what, len(got), words(got), len(want), words(want))
	}
}

// These are calls that must answer so.

func gets(t *testing.T, v *vault.Vault, tree api.Tree, key []byte, want []byte, there bool, wantE api.Errno) {
	t.Helper()
	b, ok, e := walk.Get(v, tree, key)
	if !bytes.Equal(b, want) || ok != there || e != wantE || !ok && b != nil {
		t.Fatalf("Get(%v, %x) = %x, %t, %d; want %x, %t, %d", tree, key, b, ok, e, want, there, wantE)
	}
}

// lists: so do List, Scan and Back.
func lists(t *testing.T, v *vault.Vault, tree api.Tree, r api.Range, want []api.Pair) {
	t.Helper()
	l, e := walk.List(v, tree, r)
	equal(t, "List of "+show(r), e, 0)
	equalPairs(t, "List of "+show(r), l, want)
	scan, back := walk.Scan(v, tree, r), walk.Back(v, tree, r)
	if scan == nil || back == nil {
		t.Fatalf("no walk over %s", show(r))
	}
	equalPairs(t, "Scan of "+show(r), told(scan), want)
	equalPairs(t, "Back of "+show(r), told(back), turned(want))
}

// turned is the pairs the other way round.
func turned(l []api.Pair) []api.Pair {
	l = slices.Clone(l)
	slices.Reverse(l)
	return l
}

// near is a call of Ceil or Floor.
func near(t *testing.T, call func(*vault.Vault, api.Tree, []byte) (api.Pair, bool, api.Errno), what string, v *vault.Vault, tree api.Tree, row []byte, want []api.Pair) {
	t.Helper()
	x, ok, e := call(v, tree, row)
	if ok != (len(want) == 1) || e != 0 || ok && !samePair(x, want[0]) || !ok && (x.Key != nil || x.Value != nil) {
		t.Fatalf("%s(%x) = %q %q, %t, %d; want %q", what, row, x.Key, x.Value, ok, e, words(want))
	}
}

// ceils and floors: want is one pair, or none.
func ceils(t *testing.T, v *vault.Vault, tree api.Tree, row []byte, want ...api.Pair) {
	t.Helper()
	near(t, walk.Ceil, "Ceil", v, tree, row, want)
}

func floors(t *testing.T, v *vault.Vault, tree api.Tree, row []byte, want ...api.Pair) {
	t.Helper()
	near(t, walk.Floor, "Floor", v, tree, row, want)
}

func leads(t *testing.T, v *vault.Vault, tree api.Tree, row []byte, want ...int) {
	t.Helper()
	if l, e := walk.Path(v, tree, row); !slices.Equal(l, want) || e != 0 {
		t.Fatalf("Path(%v, %x) = %v, %d; want %v", tree, row, l, e, want)
	}
}

func checks(t *testing.T, v *vault.Vault, tree api.Tree, want api.Errno) {
	t.Helper()
	if e := walk.Check(v, tree); e != want {
		t.Fatalf("Check(%v) = %d, want %d", tree, e, want)
	}
}

// answers: all calls that take a row tell of it what they must.
func answers(t *testing.T, v *vault.Vault, g *grove.Grown, row []byte) {
	t.Helper()
	if len(row) == 0 || len(row) > maxKey {
		gets(t, v, g.Tree, row, nil, false, errKey)
	} else {
		value, there := g.Get(row)
		gets(t, v, g.Tree, row, value, there, 0)
	}
	ceils(t, v, g.Tree, row, g.Ceil(row)...)
	floors(t, v, g.Tree, row, g.Floor(row)...)
	leads(t, v, g.Tree, row, g.Path(row)...)
}
