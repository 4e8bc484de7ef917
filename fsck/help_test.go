package fsck_test

import (
	"bytes"
	"fmt"
	"slices"
	"testing"

	"coppice/api"
	"coppice/disk"
	"coppice/draw"
	"coppice/fsck"
	"coppice/grove"
	"coppice/vault"
)

// The calls have just these types.
var (
	_ func(*vault.Vault, []api.Root) (api.Report, api.Errno)            = fsck.Whole
	_ func(*disk.Disk, api.Super) (*vault.Vault, api.Report, api.Errno) = fsck.Load
	_ func(*disk.Disk, api.Super) ([]int, api.Errno)                    = fsck.Bad
)

// The numbers that the document names, as it names them.
const (
	lowest, greatest = -9223372036854775808, 9223372036854775807
	blockSize        = 512
	inline           = 32
	chunk            = 480
	least, most      = 4, 8
	maxHeight        = 12
	maxGen           = 1 << 40
	maxId            = 1<<31 - 1

	free, pending, fresh, held    = 1, 2, 3, 4
	leafKind, indexKind, blobKind = 1, 2, 3

	errArg, errMany, errForm, errOrder, errPage, errDown, errCorrupt, errOther = 1, 4, 5, 11, 15, 17, 18, 25
)

var (
	empty   = api.Tree{}
	allKeys = api.Range{Open: true}
)

// equal holds an answer against what is wanted.
func equal[T comparable](t *testing.T, what string, got, want T) {
	t.Helper()
	if got != want {
		t.Fatalf("%s: %v, want %v", what, got, want)
	}
}

func equalLists(t *testing.T, what string, got, want []int) {
	t.Helper()
	if !slices.Equal(got, want) {
		t.Fatalf("%s: %v, want %v", what, got, want)
	}
}

// told is a report as a text; nil and an empty list are the same there.
func told(r api.Report) string { return fmt.Sprintf("%+v", r) }

// nothing is the zero report as a text.
var nothing = told(api.Report{})

func tree(root, height, items int) api.Tree {
	return api.Tree{Root: root, Height: height, Items: items}
}

// roots is roots of trees, with ids from 1 on.
func roots(l ...api.Tree) []api.Root {
	var all []api.Root
	for k, x := range l {
		all = append(all, api.Root{Id: k + 1, Tree: x})
	}
	return all
}

// treesOf is the trees of roots.
func treesOf(l []api.Root) []api.Tree {
	var all []api.Tree
	for _, r := range l {
		all = append(all, r.Tree)
	}
	return all
}

// without is a list but for one of it.
func without[T any](l []T, at int) []T { return slices.Delete(slices.Clone(l), at, at+1) }

// leaf is a leaf with these letters as keys, each with a value of two bytes.
func leaf(letters string) api.Page {
	p := api.Page{Kind: leafKind}
	for _, k := range []byte(letters) {
		p.Items = append(p.Items, api.Item{Key: []byte{k}, Value: []byte("xx"), Size: 2})
	}
	return p
}

// leafOf is a leaf with these letters as keys, the value of the first one standing on pages.
func leafOf(letters string, size, child int) api.Page {
	p := leaf(letters)
	p.Items[0].Value, p.Items[0].Size, p.Items[0].Child = nil, size, child
	return p
}

// index is an index with these letters as separators.
func index(level int, separators string, children ...int) api.Page {
	p := api.Page{Kind: indexKind, Level: level, Items: []api.Item{{Child: children[0]}}}
	for k, n := range children[1:] {
		p.Items = append(p.Items, api.Item{Key: []byte(separators[k : k+1]), Child: n})
	}
	return p
}

// part is a blob of so many bytes.
func part(size, next int) api.Page {
	return api.Page{Kind: blobKind, Data: grove.Value(size), Next: next}
}

func newVault(t *testing.T, pages, refs int) *vault.Vault {
	t.Helper()
	v, e := vault.New(pages, refs)
	equal(t, "vault.New", e, 0)
	return v
}

func vaultOf(t *testing.T, s *grove.Store) *vault.Vault {
	t.Helper()
	v, e := s.Vault()
	equal(t, "a vault", e, 0)
	return v
}

// counted is a store of these pages, whose counts are right for these trees; so many are
// free behind them.
func counted(refs, more int, pages []api.Page, trees ...api.Tree) *grove.Store {
	s := grove.StoreOf(refs, pages, more)
	clear(s.Counts)
	for n, c := range modelCounts(s, trees) {
		s.Counts[n-1] = c
	}
	return s
}

// example is the chapter's vault, and its tree.
func example(t *testing.T) (*vault.Vault, api.Tree) {
	t.Helper()
	v := newVault(t, 8, 9)
	for k, p := range []api.Page{leaf("abcd"), leaf("mnop"), index(1, "m", 1, 2)} {
		n, e := v.Make(p)
		equal(t, "Make", e, 0)
		equal(t, "Make", n, k+1)
	}
	return v, tree(3, 2, 8)
}

// unchanged does something, behind which all must be as it was: each count, each state and
// each page, Mark, and what Undo answers of it and of its neighbour.
func unchanged(t *testing.T, v *vault.Vault, do func()) {
	t.Helper()
	before, mark := grove.StoreFrom(v), v.Mark()
	do()
	equal(t, "a page that is not as it was, behind a call that changes nothing", before.Differs(v), 0)
	equal(t, "Mark behind it", v.Mark(), mark)
	equal(t, "Undo(Mark + 1) behind it", v.Undo(mark+1), false)
	equal(t, "Undo(Mark) behind it", v.Undo(mark), true)
	equal(t, "a page that is not as it was, behind Undo(Mark)", before.Differs(v), 0)
}

// unwritten does something, behind which a disk must be as it was, in all that can be seen
// of it but its alarm.
func unwritten(t *testing.T, d *disk.Disk, do func()) {
	t.Helper()
	image, isOn, unsynced := d.Image(), d.IsOn(), d.Unsynced()
	writes, syncs := d.Acts()
	do()
	equal(t, "what lasts is as it was", bytes.Equal(d.Image(), image), true)
	equal(t, "IsOn", d.IsOn(), isOn)
	equalLists(t, "Unsynced", d.Unsynced(), unsynced)
	w, s := d.Acts()
	equal(t, "Acts", fmt.Sprint(w, s), fmt.Sprint(writes, syncs))
}

// whole is a Whole that is held against the model, and that changes nothing.
func whole(t *testing.T, v *vault.Vault, l []api.Root) (api.Report, api.Errno) {
	t.Helper()
	var report api.Report
	var e api.Errno
	unchanged(t, v, func() { report, e = fsck.Whole(v, l) })
	want, wantE := modelWhole(grove.StoreFrom(v), l)
	equal(t, fmt.Sprintf("Whole(v, %v)", l), e, wantE)
	equal(t, fmt.Sprintf("Whole(v, %v)", l), told(report), told(want))
	return report, e
}

// refused: Whole does not take the trees.
func refused(t *testing.T, what string, v *vault.Vault, l ...api.Tree) {
	t.Helper()
	_, e := whole(t, v, roots(l...))
	equal(t, what, e, errCorrupt)
}

// taken: Whole takes the trees, and this is the report.
func taken(t *testing.T, what string, v *vault.Vault, want api.Report, l ...api.Tree) {
	t.Helper()
	report, e := whole(t, v, roots(l...))
	equal(t, what, e, 0)
	equal(t, what, told(report), told(want))
}

// bad is a Bad that is held against the model.
func bad(t *testing.T, d *disk.Disk, s api.Super) ([]int, api.Errno) {
	t.Helper()
	l, e := fsck.Bad(d, s)
	want, wantE := modelBad(d, s)
	equal(t, "Bad", e, wantE)
	equalLists(t, "Bad", l, want)
	return l, e
}

// loads is a Load that is held against the model, and against Whole and Bad.
func loads(t *testing.T, d *disk.Disk, s api.Super) (*vault.Vault, api.Report, api.Errno) {
	t.Helper()
	v, report, e := fsck.Load(d, s)
	store, want, wantE := modelLoad(d, s)
	equal(t, "Load", e, wantE)
	equal(t, "Load's report", told(report), told(want))
	equal(t, "a vault beside OK alone", v != nil, e == 0)
	if e != 0 {
		return v, report, e
	}
	equal(t, "Refs", v.Refs(), s.Config.Refs)
	equal(t, "a page that is not as it lies there", store.Differs(v), 0)
	equal(t, "Mark", v.Mark(), 0)
	again, f := fsck.Whole(v, s.Roots)
	equal(t, "Whole of the vault", f, 0)
	equal(t, "Whole of the vault", told(again), told(report))
	l, f := bad(t, d, s)
	equal(t, "Bad of what is whole", fmt.Sprint(l, f), fmt.Sprint([]int(nil), api.OK))
	return v, report, e
}

// met is how often what was met.
type met map[string]int

// wants: each of these was met so many times.
func (m met) wants(t *testing.T, n int, what ...string) {
	t.Helper()
	for _, w := range what {
		if m[w] < n {
			t.Errorf("%q was met %d times, want %d", w, m[w], n)
		}
	}
}

// anyBytes is a block of bytes that look like no rule.
func anyBytes(from int) []byte {
	r := draw.Numbers(from)
	return r.Bytes(blockSize)
}
