package commit_test

import (
	"bytes"
	"fmt"
	"slices"
	"testing"

	"coppice/api"
	"coppice/commit"
	"coppice/disk"
	"coppice/draw"
	"coppice/fsck"
	"coppice/grove"
	"coppice/vault"
)

// The calls have just these types.
var (
	_ func(*disk.Disk, api.Config) (api.Super, *vault.Vault, api.Errno) = commit.Format
	_ func(*disk.Disk, api.Super, *vault.Vault) api.Errno               = commit.Write
	_ func(*disk.Disk) ([]api.Super, api.Errno)                         = commit.Candidates
	_ func(*disk.Disk) (api.Super, *vault.Vault, api.Errno)             = commit.Open
)

// The numbers that the document names, as it names them.
const (
	lowest, greatest = -9223372036854775808, 9223372036854775807
	blockSize        = 512
	perBlock         = 240
	maxBlocks        = 65536
	maxGen           = 1 << 40
	maxId            = 1<<31 - 1

	free, pending, fresh, held    = 1, 2, 3, 4
	leafKind, indexKind, blobKind = 1, 2, 3

	errArg, errMany, errForm, errOrder, errDown, errCorrupt = 1, 4, 5, 11, 17, 18
)

var allKeys = api.Range{Open: true}

// equal holds an answer against what is wanted.
func equal[T comparable](t *testing.T, what string, got, want T) {
	t.Helper()
	if got != want {
		t.Fatalf("%s: %v, want %v", what, got, want)
	}
}

func equalLists[T comparable](t *testing.T, what string, got, want []T) {
	t.Helper()
	if !slices.Equal(got, want) {
		t.Fatalf("%s: %v, want %v", what, got, want)
	}
}

// told is a superblock as a text; nil and an empty list are the same there.
func told(s api.Super) string { return fmt.Sprintf("%+v", s) }

// toldAll is superblocks as texts.
func toldAll(l []api.Super) []string {
	var all []string
	for _, s := range l {
		all = append(all, told(s))
	}
	return all
}

// noSuper is the zero superblock as a text.
var noSuper = told(api.Super{})

func tree(root, height, items int) api.Tree {
	return api.Tree{Root: root, Height: height, Items: items}
}

// roots is roots of trees, with ids from 1 on.
func roots(l ...api.Tree) []api.Root {
	var all []api.Root
	for k, x := range l {
		all = append(all, api.Root{Id: k + 1, Tree: x})
	}
	return all
}

// leaf is a leaf with these letters as keys, each with a value of two bytes.
func leaf(letters string) api.Page {
	p := api.Page{Kind: leafKind}
	for _, k := range []byte(letters) {
		p.Items = append(p.Items, api.Item{Key: []byte{k}, Value: []byte("xx"), Size: 2})
	}
	return p
}

func newDisk(t *testing.T, blocks int) *disk.Disk {
	t.Helper()
	d, e := disk.New(blocks)
	equal(t, "disk.New", e, 0)
	return d
}

// diskOf is a disk with these blocks, all of which last.
func diskOf(t *testing.T, blocks [][]byte) *disk.Disk {
	t.Helper()
	d, e := disk.From(slices.Concat(blocks...))
	equal(t, "disk.From", e, 0)
	return d
}

// blocksOf is what lasts on a disk, block by block.
func blocksOf(d *disk.Disk) [][]byte { return slices.Collect(slices.Chunk(d.Image(), blockSize)) }

func vaultOf(t *testing.T, s *grove.Store) *vault.Vault {
	t.Helper()
	v, e := s.Vault()
	equal(t, "a vault", e, 0)
	return v
}

// formatted is a disk of a config with the empty forest.
func formatted(t *testing.T, c api.Config) (*disk.Disk, api.Super, *vault.Vault) {
	t.Helper()
	d := newDisk(t, c.Blocks)
	s, v, e := commit.Format(d, c)
	equal(t, "Format", e, 0)
	return d, s, v
}

// written writes over a block of a disk.
func written(t *testing.T, d *disk.Disk, at int, b []byte) {
	t.Helper()
	equal(t, "disk.Write", d.Write(at, b), 0)
}

// seen is all that can be seen of a disk without an act, but its alarm.
func seen(d *disk.Disk) string {
	var all bytes.Buffer
	w, s := d.Acts()
	fmt.Fprint(&all, d.Blocks(), d.IsOn(), d.Unsynced(), w, s)
	for i := range d.Blocks() {
		b, e := d.Read(i)
		fmt.Fprint(&all, int(e))
		all.Write(b)
	}
	all.Write(d.Image())
	return all.String()
}

// unwritten does something, behind which a disk must be as it was.
func unwritten(t *testing.T, d *disk.Disk, do func()) {
	t.Helper()
	before := seen(d)
	do()
	equal(t, "the disk is as it was", seen(d) == before, true)
}

// unsettled: a vault has what a store has, and this mark is where it is.
func unsettled(t *testing.T, v *vault.Vault, s *grove.Store, mark int) {
	t.Helper()
	equal(t, "a page that is not as it was", s.Differs(v), 0)
	equal(t, "Mark", v.Mark(), mark)
	equal(t, "Undo(Mark + 1)", v.Undo(mark+1), false)
	equal(t, "Undo(Mark)", v.Undo(mark), true)
	equal(t, "a page that is not as it was, behind Undo(Mark)", s.Differs(v), 0)
}

// settled: a vault has what a store has, settled, and what was done up to there, to this
// mark, cannot be undone any more.
func settled(t *testing.T, v *vault.Vault, s *grove.Store, mark int) {
	t.Helper()
	s = s.Copy()
	s.Settle()
	equal(t, "a page that is not as it was settled", s.Differs(v), 0)
	equal(t, "Mark", v.Mark(), mark)
	equal(t, "Undo(Mark - 1)", v.Undo(mark-1), false)
	equal(t, "Undo(Mark)", v.Undo(mark), true)
}

// whole: just these roots' trees stand in a vault.
func whole(t *testing.T, v *vault.Vault, l []api.Root) {
	t.Helper()
	_, e := fsck.Whole(v, l)
	equal(t, "Whole", e, 0)
}

// met is how often what was met.
type met map[string]int

// wants: each of these was met so many times.
func (m met) wants(t *testing.T, n int, what ...string) {
	t.Helper()
	for _, w := range what {
		if m[w] < n {
			t.Errorf("%q was met %d times, want %d", w, m[w], n)
		}
	}
}

// isZeros: is it a block of bytes 0?
func isZeros(b []byte) bool { return bytes.Equal(b, make([]byte, blockSize)) }

// anyBytes is a block of bytes that look like no rule.
func anyBytes(r *draw.Numbers) []byte { return r.Bytes(blockSize) }
