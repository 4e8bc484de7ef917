package forest_test

import (
	"bytes"
	"fmt"
	"iter"
	"maps"
	"slices"
	"strings"
	"testing"

	"coppice/api"
	"coppice/disk"
	"coppice/draw"
	"coppice/forest"
)

// The calls have just these types.
var (
	_ func(*disk.Disk, api.Config) (*forest.Forest, api.Errno)                    = forest.Format
	_ func(*disk.Disk) (*forest.Forest, api.Errno)                                = forest.Open
	_ func(*forest.Forest) (int, api.Errno)                                       = (*forest.Forest).Plant
	_ func(*forest.Forest, int) (int, api.Errno)                                  = (*forest.Forest).Clone
	_ func(*forest.Forest, int) api.Errno                                         = (*forest.Forest).Drop
	_ func(*forest.Forest, int, []byte, []byte) (bool, api.Errno)                 = (*forest.Forest).Put
	_ func(*forest.Forest, int, []byte) (bool, api.Errno)                         = (*forest.Forest).Delete
	_ func(*forest.Forest, int, api.Range) (int, api.Errno)                       = (*forest.Forest).Trim
	_ func(*forest.Forest, int, []byte) ([]byte, bool, api.Errno)                 = (*forest.Forest).Get
	_ func(*forest.Forest, int, api.Range) (iter.Seq2[[]byte, []byte], api.Errno) = (*forest.Forest).Scan
	_ func(*forest.Forest, int, api.Range) ([]api.Pair, api.Errno)                = (*forest.Forest).List
	_ func(*forest.Forest, int, int) api.Errno                                    = (*forest.Forest).Swap
	_ func(*forest.Forest, func() api.Errno) api.Errno                            = (*forest.Forest).All
	_ func(*forest.Forest) api.Errno                                              = (*forest.Forest).Commit
	_ func(*forest.Forest) []api.Root                                             = (*forest.Forest).Roots
	_ func(*forest.Forest) api.Super                                              = (*forest.Forest).Super
	_ func(*forest.Forest, int) int                                               = (*forest.Forest).Tally
	_ func(*forest.Forest) []int                                                  = (*forest.Forest).Counts
	_ func(*forest.Forest, int, int, api.Range) ([]api.Change, api.Errno)         = (*forest.Forest).Diff
	_ func(*forest.Forest, int, int, int, int) ([]api.Conflict, api.Errno)        = (*forest.Forest).Merge
	_ func(*forest.Forest, int) ([]int, api.Errno)                                = (*forest.Forest).Reach
	_ func(*forest.Forest) (api.Report, api.Errno)                                = (*forest.Forest).Check
	_ func(*forest.Forest) bool                                                   = (*forest.Forest).Dead
)

// The numbers that the document names, as it names them.
const (
	lowest, greatest = -9223372036854775808, 9223372036854775807
	blockSize        = 512
	perBlock         = 240
	maxBlocks        = 65536
	maxKey           = 24
	inline           = 32
	chunk            = 480
	maxValue         = 3840
	maxRefs          = 65535
	maxGen           = 1 << 40
	maxId            = 1<<31 - 1

	free, pending, fresh, held    = 1, 2, 3, 4
	leafKind, indexKind, blobKind = 1, 2, 3
	mergeFail, byOurs, byTheirs   = 0, 1, 2

	errArg, errMany, errKey, errValue, errNone        = 1, 4, 7, 8, 9
	errSpace, errRefs, errClones, errDown, errCorrupt = 12, 13, 14, 17, 18
	errBase, errStale, errEnd, errMerge               = 19, 20, 21, 26
)

var allKeys = api.Range{Open: true}

// equal holds an answer against what is wanted.
func equal[T comparable](t *testing.T, what string, got, want T) {
	t.Helper()
	if got != want {
		t.Fatalf("%s: %v, want %v", what, got, want)
	}
}

func equalLists[T comparable](t *testing.T, what string, got, want []T) {
	t.Helper()
	if !slices.Equal(got, want) {
		t.Fatalf("%s: %v, want %v", what, got, want)
	}
}

// told is a superblock as a text; nil and an empty list are the same there.
func told(s api.Super) string { return fmt.Sprintf("%+v", s) }

func tree(root, height, items int) api.Tree {
	return api.Tree{Root: root, Height: height, Items: items}
}

func newDisk(t *testing.T, blocks int) *disk.Disk {
	t.Helper()
	d, e := disk.New(blocks)
	equal(t, "disk.New", e, 0)
	return d
}

// twin is another disk with the same blocks, all of which last.
func twin(t *testing.T, d *disk.Disk) *disk.Disk {
	t.Helper()
	other, e := disk.From(d.Image())
	equal(t, "disk.From", e, 0)
	return other
}

// blocksOf is what lasts on a disk, block by block.
func blocksOf(d *disk.Disk) [][]byte { return slices.Collect(slices.Chunk(d.Image(), blockSize)) }

// written writes over a block of a disk.
func written(t *testing.T, d *disk.Disk, at int, b []byte) {
	t.Helper()
	equal(t, "disk.Write", d.Write(at, b), 0)
}

// formatted is a disk of a config, and the empty forest on it.
func formatted(t *testing.T, c api.Config) (*disk.Disk, *forest.Forest) {
	t.Helper()
	d := newDisk(t, c.Blocks)
	f, e := forest.Format(d, c)
	equal(t, "Format", e, 0)
	return d, f
}

// opened is the forest on a disk.
func opened(t *testing.T, d *disk.Disk) *forest.Forest {
	t.Helper()
	f, e := forest.Open(d)
	equal(t, "Open", e, 0)
	return f
}

// seen is all that can be seen of a disk without an act, but its alarm.
func seen(d *disk.Disk) string {
	var all bytes.Buffer
	w, s := d.Acts()
	fmt.Fprint(&all, d.Blocks(), d.IsOn(), d.Unsynced(), w, s)
	for i := range d.Blocks() {
		b, e := d.Read(i)
		fmt.Fprint(&all, int(e))
		all.Write(b)
	}
	all.Write(d.Image())
	return all.String()
}

// unwritten does something, behind which a disk must be as it was.
func unwritten(t *testing.T, d *disk.Disk, do func()) {
	t.Helper()
	before := seen(d)
	do()
	equal(t, "the disk is as it was", seen(d) == before, true)
}

// family is, by the ids, the map from keys to values of each tree.
type family map[int]map[string]string

// with is another family, in which an id has these pairs; without any it has no tree.
func (f family) with(id int, m map[string]string) family {
	g := maps.Clone(f)
	if m == nil {
		delete(g, id)
	} else {
		g[id] = m
	}
	return g
}

// told is a family as a text.
func (f family) told() string {
	text := ""
	for _, id := range slices.Sorted(maps.Keys(f)) {
		text += fmt.Sprintf("%d:%s; ", id, toldMap(f[id], allKeys))
	}
	return text
}

// toldMap is the pairs of a map whose keys lie in a range, by rising keys, as a text.
func toldMap(m map[string]string, r api.Range) string {
	var text strings.Builder
	for _, k := range slices.Sorted(maps.Keys(m)) {
		if lies(r, k) {
			fmt.Fprintf(&text, " %x=%x", k, m[k])
		}
	}
	return text.String()
}

// lies: does a key lie in a range?
func lies(r api.Range, k string) bool { return k >= string(r.Lo) && (r.Open || k < string(r.Hi)) }

// toldPairs is pairs as a text.
func toldPairs(l []api.Pair) string {
	var text strings.Builder
	for _, x := range l {
		fmt.Fprintf(&text, " %x=%x", x.Key, x.Value)
	}
	return text.String()
}

// toldWalk is what a walk goes over, as a text.
func toldWalk(walk iter.Seq2[[]byte, []byte]) string {
	var text strings.Builder
	for k, v := range walk {
		fmt.Fprintf(&text, " %x=%x", k, v)
	}
	return text.String()
}

// familyOf is what the trees of a forest tell.
func familyOf(t *testing.T, f *forest.Forest) family {
	t.Helper()
	all := family{}
	for _, r := range f.Roots() {
		l, e := f.List(r.Id, allKeys)
		equal(t, "List", e, 0)
		all[r.Id] = map[string]string{}
		for _, x := range l {
			all[r.Id][string(x.Key)] = string(x.Value)
		}
	}
	return all
}

// met is how often what was met.
type met map[string]int

// add adds what was met elsewhere.
func (m met) add(other met) {
	for what, n := range other {
		m[what] += n
	}
}

// wants: each of these was met so many times.
func (m met) wants(t *testing.T, n int, what ...string) {
	t.Helper()
	for _, w := range what {
		if m[w] < n {
			t.Errorf("%q was met %d times, want %d", w, m[w], n)
		}
	}
}

// anyBytes is a block of bytes that look like no rule.
func anyBytes(r *draw.Numbers) []byte { return r.Bytes(blockSize) }
