package commit_test

import (
	"fmt"
	"testing"

	"coppice/api"
	"coppice/commit"
	"coppice/disk"
	"coppice/grove"
	"coppice/vault"
)

// exampleConfig is the chapter's: two superblocks, two banks of one block each (2 and 3),
// five pages (blocks 4 to 8).
var exampleConfig = api.Config{Blocks: 9, Clones: 4, Refs: 9}

// acts: so many writes and syncs were done.
func acts(t *testing.T, d *disk.Disk, writes, syncs int) {
	t.Helper()
	w, s := d.Acts()
	equal(t, "writes", w, writes)
	equal(t, "syncs", s, syncs)
}

// opens: this is what is opened, and nothing is written for it.
func opens(t *testing.T, d *disk.Disk, want api.Super) *vault.Vault {
	t.Helper()
	var v *vault.Vault
	unwritten(t, d, func() {
		s, got, e := commit.Open(d)
		equal(t, "Open", e, 0)
		equal(t, "the superblock", told(s), told(want))
		v = got
	})
	return v
}

// opensNone: nothing is opened, for this reason.
func opensNone(t *testing.T, d *disk.Disk, want api.Errno) {
	t.Helper()
	unwritten(t, d, func() {
		s, v, e := commit.Open(d)
		equal(t, "Open", e, want)
		equal(t, "the superblock", told(s), noSuper)
		equal(t, "no vault", v == nil, true)
	})
}

// candidates: these are the candidates, and nothing is written for it.
func candidates(t *testing.T, d *disk.Disk, want ...api.Super) {
	t.Helper()
	unwritten(t, d, func() {
		l, e := commit.Candidates(d)
		equal(t, "Candidates", e, 0)
		equalLists(t, "Candidates", toldAll(l), toldAll(want))
	})
}

// example is the chapter's disk behind its first two rows: the superblock and the vault.
func example(t *testing.T) (*disk.Disk, api.Super, *vault.Vault) {
	t.Helper()
	d, _, v := formatted(t, exampleConfig)
	n, e := v.Make(leaf("a"))
	equal(t, "Make", e, 0)
	equal(t, "Make", n, 1)
	s := api.Super{Gen: 1, Config: exampleConfig, Next: 2, Roots: roots(tree(1, 1, 1))}
	equal(t, "Write", commit.Write(d, s, v), 0)
	return d, s, v
}

// The chapter's table of examples, row by row.
func TestExamplesOfFormat(t *testing.T) {
	d, s, v := formatted(t, exampleConfig)
	equal(t, "Format", told(s), told(api.Super{Config: exampleConfig, Next: 1}))
	equal(t, "Len", v.Len(), 5)
	equal(t, "Refs", v.Refs(), 9)
	equal(t, "free pages", v.Tally(free), 5)
	acts(t, d, 4, 3)
}

func TestExamplesOfWrite(t *testing.T) {
	d, s, v := example(t)
	acts(t, d, 8, 6)
	equal(t, "State", v.State(1), held)
	candidates(t, d, s, api.Super{Config: exampleConfig, Next: 1})
	opened := opens(t, d, s)
	equal(t, "State of what was opened", opened.State(1), held)
	equalLists(t, "Counts of what was opened", opened.Counts(), []int{1, 0, 0, 0, 0})
}

// Which blocks are written, in which order.
func TestExamplesOfOrder(t *testing.T) {
	for n, want := range [][]int{{}, {1}, {}, {4}, {4, 3}, {}, {1}} {
		d, _, v := formatted(t, exampleConfig)
		v.Make(leaf("a"))
		d.Arm(n)
		equal(t, "Write", commit.Write(d, api.Super{Gen: 1, Config: exampleConfig, Next: 2, Roots: roots(tree(1, 1, 1))}, v), errDown)
		equalLists(t, fmt.Sprintf("behind %d acts", n), d.Unsynced(), want)
	}
}

func TestExamplesOfPower(t *testing.T) {
	for _, acts := range []int{1, 4} {
		d, s, v := example(t)
		next := s
		next.Gen = 2
		d.Arm(acts)
		equal(t, "Write", commit.Write(d, next, v), errDown)
		opensNone(t, d, errDown)
		d.On(nil)
		opened := opens(t, d, s)
		equal(t, "a page of what was opened", grove.StoreFrom(opened).Differs(v), 0)
		b, _ := d.Read(0)
		equal(t, "block 0 holds bytes 0", isZeros(b), acts == 4)
		d.Off()
		d.Lay(3, make([]byte, blockSize))
		d.On(nil)
		if acts == 4 {
			opensNone(t, d, errCorrupt)
		} else {
			opens(t, d, api.Super{Config: exampleConfig, Next: 1})
		}
	}
}

func TestExamplesOfErrors(t *testing.T) {
	d, s, v := example(t)
	for _, c := range []api.Config{{Blocks: 8, Clones: 4, Refs: 9}, {Blocks: 9, Clones: 0, Refs: 9}} {
		none, w, e := commit.Format(d, c)
		equal(t, "Format", e, errArg)
		equal(t, "the superblock", told(none), noSuper)
		equal(t, "no vault", w == nil, true)
	}
	s.Gen, s.Roots[0].Id = 3, 2
	equal(t, "Write", commit.Write(d, s, v), errOrder)
	acts(t, d, 8, 6)
}
