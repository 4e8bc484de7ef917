package cut_test

import (
	"bytes"
	"slices"

	"coppice/api"
	"coppice/grove"
)

// The ways of filling a child, in their order.
const (
	rightLends = "right lends"
	leftLends  = "left lends"
	rightTaken = "right is taken"
	childTaken = "child is taken"
)

// did is what was done on the way of a cut.
type did struct {
	there   bool
	shadows int
	fills   []string // at each index from the root on; "": the child had more than the least
	fell    bool     // the root was taken, or the last leaf
	at, of  int      // the item's place in the leaf, and how many items that had
	pages   int      // of the value that went
	failed  string   // the step that could not be done
}

// cutter does the steps of a cut.
type cutter struct {
	*grove.Store
	did
}

// modelCut is Cut as the document tells it, word for word: the store then, and the tree.
func modelCut(s *grove.Store, t api.Tree, key []byte) (*grove.Store, api.Tree, did, api.Errno) {
	if len(key) < 1 || len(key) > maxKey {
		return s, empty, did{}, errKey
	}
	m := &cutter{Store: s.Copy()}
	if !m.has(t, key) {
		return s, t, did{}, 0
	}
	m.there = true
	then, e := m.cut(t, key)
	if e != 0 {
		return s, empty, m.did, e
	}
	return m.Store, then, m.did, 0
}

// has: does a leaf of the tree have the key? All of them are looked at.
func (m *cutter) has(t api.Tree, key []byte) bool {
	var isBeneath func(n int) bool
	isBeneath = func(n int) bool {
		p := m.On[n-1]
		return slices.ContainsFunc(p.Items, func(i api.Item) bool {
			return p.Kind == leafKind && bytes.Equal(i.Key, key) || p.Kind == indexKind && isBeneath(i.Child)
		})
	}
	return t != empty && isBeneath(t.Root)
}

func (m *cutter) cut(t api.Tree, key []byte) (api.Tree, api.Errno) {
	root, e := m.shadow("root", t.Root) // step 1
	if e != 0 {
		return empty, e
	}
	t.Root = root
	n := root
	for m.On[n-1].Kind == indexKind { // step 2
		at, e := m.prepare(n, key)
		if e != 0 {
			return empty, e
		}
		index := m.Page(n)
		child := index.Items[at].Child
		if n == t.Root && len(index.Items) == 1 {
			m.Take(n)
			t.Root = child
			t.Height--
			m.fell = true
		}
		n = child
	}
	m.atLeaf(n, key) // step 3
	t.Items--
	if len(m.On[n-1].Items) == 0 {
		m.Take(n)
		m.fell = true
		return empty, 0
	}
	return t, 0
}

// shadow shadows a page; what is said of it, where that cannot be done.
func (m *cutter) shadow(what string, n int) (int, api.Errno) {
	s, e := m.Shadow(n)
	if s != n {
		m.shadows++
	}
	if e != 0 {
		m.failed = what
	}
	return s, e
}

// shadowChild shadows the page to which an item of an index leads.
func (m *cutter) shadowChild(what string, n, at int) api.Errno {
	index := m.Page(n)
	s, e := m.shadow(what, index.Items[at].Child)
	index.Items[at].Child = s
	m.On[n-1] = index
	return e
}

// prepare shadows the child in whose range the key lies, and fills it, if it has Least
// items: which item leads to the one in which it goes on.
func (m *cutter) prepare(n int, key []byte) (int, api.Errno) {
	at := grove.Lies(m.On[n-1], key)
	if e := m.shadowChild("child", n, at); e != 0 {
		return 0, e
	}
	items := func(at int) int {
		if at < 0 || at >= len(m.On[n-1].Items) {
			return 0
		}
		return len(m.On[m.On[n-1].Items[at].Child-1].Items)
	}
	how := ""
	switch {
	case items(at) != least:
	case items(at+1) > least:
		how = rightLends
	case items(at-1) > least:
		how = leftLends
	case items(at+1) > 0:
		how = rightTaken
	default:
		how = childTaken
	}
	m.fills = append(m.fills, how)
	return m.fill(how, n, at)
}

func (m *cutter) fill(how string, n, at int) (int, api.Errno) {
	switch how {
	case rightLends:
		if e := m.shadowChild(how, n, at+1); e != 0 {
			return 0, e
		}
		m.lendToLeft(n, at)
	case leftLends:
		if e := m.shadowChild(how, n, at-1); e != 0 {
			return 0, e
		}
		m.lendToRight(n, at-1)
	case rightTaken:
		return at, m.join(how, n, at)
	case childTaken:
		if e := m.shadowChild(how, n, at-1); e != 0 {
			return 0, e
		}
		return at - 1, m.join(how, n, at-1)
	}
	return at, 0
}

// lendToLeft moves the first item of the right one of two neighbours, left and left + 1.
func (m *cutter) lendToLeft(n, left int) {
	index := m.Page(n)
	l, r := index.Items[left].Child, index.Items[left+1].Child
	a, b := m.Page(l), m.Page(r)
	lent := b.Items[0]
	b.Items = b.Items[1:]
	if a.Kind == indexKind {
		lent.Key = index.Items[left+1].Key
		index.Items[left+1].Key = b.Items[0].Key
		b.Items[0].Key = nil
	} else {
		index.Items[left+1].Key = grove.Shortest(lent.Key, b.Items[0].Key)
	}
	a.Items = append(a.Items, lent)
	m.On[n-1], m.On[l-1], m.On[r-1] = index, a, b
}

// lendToRight moves the last item of the left one.
func (m *cutter) lendToRight(n, left int) {
	index := m.Page(n)
	l, r := index.Items[left].Child, index.Items[left+1].Child
	a, b := m.Page(l), m.Page(r)
	last := len(a.Items) - 1
	lent := a.Items[last]
	a.Items = a.Items[:last]
	if a.Kind == indexKind {
		b.Items[0].Key = index.Items[left+1].Key
		index.Items[left+1].Key = lent.Key
		lent.Key = nil
	} else {
		index.Items[left+1].Key = grove.Shortest(a.Items[last-1].Key, lent.Key)
	}
	b.Items = append([]api.Item{lent}, b.Items...)
	m.On[n-1], m.On[l-1], m.On[r-1] = index, a, b
}

// join takes the right one: its items stand behind the left one's.
func (m *cutter) join(how string, n, left int) api.Errno {
	index := m.Page(n)
	l, r := index.Items[left].Child, index.Items[left+1].Child
	a, b := m.Page(l), m.Page(r)
	if e := m.Take(r); e != 0 {
		m.failed = "taking: " + how
		return e
	}
	if b.Kind == indexKind {
		b.Items[0].Key = index.Items[left+1].Key
	}
	a.Items = append(a.Items, b.Items...)
	index.Items = slices.Delete(index.Items, left+1, left+2)
	m.On[n-1], m.On[l-1] = index, a
	return 0
}

// atLeaf takes the item out, and drops its value's pages.
func (m *cutter) atLeaf(n int, key []byte) {
	leaf := m.Page(n)
	m.of = len(leaf.Items)
	m.at = slices.IndexFunc(leaf.Items, func(i api.Item) bool { return bytes.Equal(i.Key, key) })
	if i := leaf.Items[m.at]; i.Child != 0 {
		m.pages = (i.Size + chunk - 1) / chunk
		m.Drop(i.Child)
	}
	leaf.Items = slices.Delete(leaf.Items, m.at, m.at+1)
	m.On[n-1] = leaf
}
