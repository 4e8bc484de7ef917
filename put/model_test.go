package put_test

import (
	"bytes"
	"slices"

	"coppice/api"
	"coppice/grove"
)

// did is what was done on the way of a put.
type did struct {
	shadows, splits int
	grew, there     bool
	at, of          int    // the key's place in the leaf, and how many items that had ahead of it
	from, to        int    // pages of the value that went, and of the one that came
	failed          string // the step that could not be done
}

// putter does the steps of a put.
type putter struct {
	*grove.Store
	did
}

// modelPut is Put as the document tells it, word for word: the store then, the tree, and
// whether the key was there.
func modelPut(s *grove.Store, t api.Tree, key, value []byte) (*grove.Store, api.Tree, did, api.Errno) {
	if len(key) < 1 || len(key) > maxKey {
		return s, empty, did{}, errKey
	}
	if len(value) > maxValue {
		return s, empty, did{}, errValue
	}
	m := &putter{Store: s.Copy()}
	then, e := m.put(t, key, value)
	if e != 0 {
		return s, empty, m.did, e
	}
	return m.Store, then, m.did, 0
}

func (m *putter) put(t api.Tree, key, value []byte) (api.Tree, api.Errno) {
	i, e := m.store(key, value) // step 1
	if e != 0 {
		m.failed = "value"
		return empty, e
	}
	if t == empty { // step 2
		n, e := m.Make(api.Page{Kind: leafKind, Items: []api.Item{i}})
		m.failed = "leaf"
		return tree(n, 1, 1), e
	}
	root, e := m.shadow(t.Root) // step 3
	if e != 0 {
		m.failed = "root"
		return empty, e
	}
	t.Root = root
	if len(m.On[root-1].Items) == most {
		right, sep, e := m.split(root)
		if e != 0 {
			m.failed = "root's half"
			return empty, e
		}
		t.Root, e = m.Make(api.Page{Kind: indexKind, Level: t.Height, Items: []api.Item{{Child: root}, {Key: sep, Child: right}}})
		if e != 0 {
			m.failed = "new root"
			return empty, e
		}
		t.Height++
		m.grew = true
	}
	n, e := m.descend(t, key) // step 4
	if e != 0 {
		return empty, e
	}
	if !m.atLeaf(n, i) { // step 5
		t.Items++
	}
	return t, 0
}

// store makes the value's pages, the last one first.
func (m *putter) store(key, value []byte) (api.Item, api.Errno) {
	i := api.Item{Key: key, Value: value, Size: len(value)}
	if len(value) <= inline {
		return i, 0
	}
	i.Value = nil
	for _, part := range slices.Backward(slices.Collect(slices.Chunk(value, chunk))) {
		n, e := m.Make(api.Page{Kind: blobKind, Data: part, Next: i.Child})
		if e != 0 {
			return i, e
		}
		i.Child = n
		m.to++
	}
	return i, 0
}

func (m *putter) shadow(n int) (int, api.Errno) {
	s, e := m.Shadow(n)
	if s != n {
		m.shadows++
	}
	return s, e
}

// split leaves the left half where it was: the page of the right one, and the separator.
func (m *putter) split(n int) (int, []byte, api.Errno) {
	left, right := m.Page(n), m.Page(n)
	left.Items, right.Items = left.Items[:least], right.Items[least:]
	sep := right.Items[0].Key
	if left.Kind == indexKind {
		right.Items[0].Key = nil
	} else {
		sep = grove.Shortest(left.Items[least-1].Key, sep)
	}
	m.On[n-1] = left
	m.splits++
	half, e := m.Make(right)
	return half, sep, e
}

// descend goes from the root down to the leaf.
func (m *putter) descend(t api.Tree, key []byte) (int, api.Errno) {
	n := t.Root
	for m.On[n-1].Kind == indexKind {
		p := m.Page(n)
		at := grove.Lies(p, key)
		child, e := m.shadow(p.Items[at].Child)
		if e != 0 {
			m.failed = "child"
			return 0, e
		}
		p.Items[at].Child = child
		if len(m.On[child-1].Items) == most {
			right, sep, e := m.split(child)
			if e != 0 {
				m.failed = "child's half"
				return 0, e
			}
			p.Items = slices.Insert(p.Items, at+1, api.Item{Key: sep, Child: right})
		}
		m.On[n-1] = p
		n = p.Items[grove.Lies(p, key)].Child
	}
	return n, 0
}

// atLeaf replaces the key's item or puts it in: was the key there?
func (m *putter) atLeaf(n int, i api.Item) bool {
	p := m.Page(n)
	m.of = len(p.Items)
	for m.at < m.of && bytes.Compare(p.Items[m.at].Key, i.Key) < 0 {
		m.at++
	}
	m.there = m.at < m.of && bytes.Equal(p.Items[m.at].Key, i.Key)
	if !m.there {
		p.Items = slices.Insert(p.Items, m.at, i)
		m.On[n-1] = p
		return false
	}
	old := p.Items[m.at]
	p.Items[m.at] = i
	m.On[n-1] = p
	if old.Child != 0 {
		m.from = (old.Size + chunk - 1) / chunk
		m.Drop(old.Child)
	}
	return true
}
