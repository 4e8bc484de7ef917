package forest

import (
	"iter"
	"slices"

	"coppice/api"
	"coppice/diff"
	"coppice/fork"
	"coppice/fsck"
	"coppice/walk"
)

// Get is the value of a key of a tree.
func (f *Forest) Get(id int, key []byte) ([]byte, bool, api.Errno) {
	t, e := f.tree(id)
	if e != api.OK {
		return nil, false, e
	}
	return walk.Get(f.vault, t, key)
}

// Scan goes over the pairs of a range of a tree, by rising keys.
func (f *Forest) Scan(id int, r api.Range) (iter.Seq2[[]byte, []byte], api.Errno) {
	t, e := f.tree(id)
	if e != api.OK {
		return nil, e
	}
	return walk.Scan(f.vault, t, r), api.OK
}

// List is the pairs of a range of a tree, by rising keys.
func (f *Forest) List(id int, r api.Range) ([]api.Pair, api.Errno) {
	t, e := f.tree(id)
	if e != api.OK {
		return nil, e
	}
	return walk.List(f.vault, t, r)
}

// Diff is what differs between two trees in a range, by rising keys.
func (f *Forest) Diff(a, b int, r api.Range) ([]api.Change, api.Errno) {
	from, e := f.tree(a)
	if e != api.OK {
		return nil, e
	}
	to, e := f.tree(b)
	if e != api.OK {
		return nil, e
	}
	return diff.List(f.vault, from, to, r)
}

// Reach are the pages that are reached from a tree, rising.
func (f *Forest) Reach(id int) ([]int, api.Errno) {
	t, e := f.tree(id)
	if e != api.OK {
		return nil, e
	}
	return fork.Reach(f.vault, t)
}

// Check is a look over all trees.
func (f *Forest) Check() (api.Report, api.Errno) {
	if f.isDead {
		return api.Report{}, api.ErrDown
	}
	return fsck.Whole(f.vault, f.coming.Roots)
}

// Roots are the trees, by rising ids.
func (f *Forest) Roots() []api.Root { return slices.Clone(f.coming.Roots) }

// Super is the superblock as it would be written now.
func (f *Forest) Super() api.Super {
	s := f.coming
	s.Roots = f.Roots()
	return s
}

// Tally is how many pages are in a state.
func (f *Forest) Tally(state int) int { return f.vault.Tally(state) }

// Counts are the counts of all pages, from page 1 on.
func (f *Forest) Counts() []int { return f.vault.Counts() }

// Dead tells whether the power has failed under it.
func (f *Forest) Dead() bool { return f.isDead }
