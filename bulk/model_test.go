package bulk_test

import (
	"bytes"
	"slices"
	"testing"

	"coppice/api"
	"coppice/cut"
	"coppice/grove"
	"coppice/put"
	"coppice/vault"
)

// What the calls must do, as the chapter says it, slow and plain.

// modelFault is the first fault of the first pair that has one.
func modelFault(l []api.Pair) api.Errno {
	for k, x := range l {
		if len(x.Key) < 1 || len(x.Key) > maxKey {
			return errKey
		}
		if len(x.Value) > maxValue {
			return errValue
		}
		if k > 0 && bytes.Compare(x.Key, l[k-1].Key) <= 0 {
			return errOrder
		}
	}
	return 0
}

// sharedOut is how many of n things each page gets.
func sharedOut(n int) []int {
	k := 0
	for k*most < n { // n divided by Most, rounded up
		k++
	}
	l := make([]int, k)
	for at := 0; n > 0; at++ { // one to each page, from the left on, as long as there are some
		l[at%k]++
		n--
	}
	return l
}

// wanted is how many pages the pairs want.
func wanted(l []api.Pair) int {
	n := 0
	for _, x := range l {
		n += pagesOf(x.Value)
	}
	for things := len(l); things > 0; {
		pages := len(sharedOut(things))
		n += pages
		if things = pages; pages == 1 {
			break
		}
	}
	return n
}

// built is a page of a level, with the leaves beneath it: which pairs are on them.
type built struct {
	no       int
	from, to int
}

// builder does the steps of Build.
type builder struct {
	*grove.Store
	l []api.Pair
}

// modelBuild is Build: the store then, and the tree.
func modelBuild(s *grove.Store, l []api.Pair) (*grove.Store, api.Tree, api.Errno) {
	if e := modelFault(l); e != 0 {
		return s, empty, e
	}
	if s.Tally(free) < wanted(l) {
		return s, empty, errSpace
	}
	if len(l) == 0 {
		return s, empty, 0
	}
	b := builder{s.Copy(), l}
	level, height := b.leaves(), 1
	for len(level) > 1 {
		level = b.indexes(level, height)
		height++
	}
	return b.Store, tree(level[0].no, height, len(l)), 0
}

func (b builder) leaves() []built {
	var level []built
	at := 0
	for _, n := range sharedOut(len(b.l)) {
		p := api.Page{Kind: leafKind}
		for _, x := range b.l[at : at+n] {
			p.Items = append(p.Items, b.item(x))
		}
		no, _ := b.Make(p)
		level = append(level, built{no, at, at + n})
		at += n
	}
	return level
}

// item makes the value's pages, the last one first.
func (b builder) item(x api.Pair) api.Item {
	i := api.Item{Key: x.Key, Value: x.Value, Size: len(x.Value)}
	if len(x.Value) <= inline {
		return i
	}
	i.Value = nil
	for _, part := range slices.Backward(slices.Collect(slices.Chunk(x.Value, chunk))) {
		i.Child, _ = b.Make(api.Page{Kind: blobKind, Data: part, Next: i.Child})
	}
	return i
}

func (b builder) indexes(beneath []built, level int) []built {
	var above []built
	at := 0
	for _, n := range sharedOut(len(beneath)) {
		p := api.Page{Kind: indexKind, Level: level}
		for k := at; k < at+n; k++ {
			i := api.Item{Child: beneath[k].no}
			if k > at { // between the last leaf beneath the item ahead and the first leaf beneath it
				i.Key = grove.Shortest(b.l[beneath[k-1].to-1].Key, b.l[beneath[k].from].Key)
			}
			p.Items = append(p.Items, i)
		}
		no, _ := b.Make(p)
		above = append(above, built{no, beneath[at].from, beneath[at+n-1].to})
		at += n
	}
	return above
}

// came is what comes of a row of puts or of cuts: the store and the tree then, how many
// counted, and, with an error, at which of them it was.
type came struct {
	then *grove.Store
	tree api.Tree
	n    int
	e    api.Errno
	at   int
}

// inTurn does so many steps in a vault of its own.
func inTurn(t *testing.T, s *grove.Store, x api.Tree, steps int, do func(v *vault.Vault, x api.Tree, at int) (api.Tree, bool, api.Errno)) came {
	t.Helper()
	v, n := vaultOf(t, s), 0
	for at := range steps {
		y, counts, e := do(v, x, at)
		if e != 0 {
			return came{s, empty, 0, e, at}
		}
		if x = y; counts {
			n++
		}
	}
	return came{grove.StoreFrom(v), x, n, 0, 0}
}

// modelLoad puts the pairs in, one behind the other.
func modelLoad(t *testing.T, s *grove.Store, x api.Tree, l []api.Pair) came {
	t.Helper()
	return inTurn(t, s, x, len(l), func(v *vault.Vault, x api.Tree, at int) (api.Tree, bool, api.Errno) {
		y, had, e := put.Put(v, x, l[at].Key, l[at].Value)
		return y, !had, e
	})
}

// modelTrim cuts those keys of the tree, by rising keys, that lie in the range.
func modelTrim(t *testing.T, s *grove.Store, x api.Tree, r api.Range) (came, [][]byte) {
	t.Helper()
	var gone [][]byte
	for _, p := range pairs(t, vaultOf(t, s), x) {
		if lies(r, p.Key) {
			gone = append(gone, p.Key)
		}
	}
	return inTurn(t, s, x, len(gone), func(v *vault.Vault, x api.Tree, at int) (api.Tree, bool, api.Errno) {
		return cut.Cut(v, x, gone[at])
	}), gone
}
