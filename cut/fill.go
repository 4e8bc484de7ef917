package cut

import (
	"coppice/api"
	"coppice/node"
	"coppice/vault"
)

// filling is a child that is made ready to be gone into: it is the tree's own (its own
// shadow), and has more than the least. Its index is the tree's own too; what becomes of
// that is kept here, and not written yet: it may have one item left.
type filling struct {
	v     *vault.Vault
	index api.Page
	at    int // which item of the index leads to the child
}

// way is one of the ways of filling a child.
type way struct {
	canBe func(f *filling) bool
	do    func(f *filling) api.Errno
}

// ways is all of them: the first one that can be is done.
func ways() [4]way {
	return [4]way{
		{(*filling).hasRichRight, (*filling).borrowFromRight},
		{(*filling).hasRichLeft, (*filling).borrowFromLeft},
		{(*filling).hasRight, (*filling).joinRight},
		{(*filling).hasLeft, (*filling).joinLeft},
	}
}

// ready makes the child ready.
func (f *filling) ready() api.Errno {
	if e := f.shadow(f.at); e != api.OK {
		return e
	}
	if f.items(f.at) > api.Least {
		return api.OK
	}
	for _, w := range ways() {
		if w.canBe(f) {
			return w.do(f)
		}
	}
	return api.ErrPage // in no tree that stands: there each child has a neighbour
}

func (f *filling) hasRichRight() bool { return f.items(f.at+1) > api.Least }

func (f *filling) hasRichLeft() bool { return f.items(f.at-1) > api.Least }

func (f *filling) hasRight() bool { return f.items(f.at+1) > 0 }

func (f *filling) hasLeft() bool { return f.items(f.at-1) > 0 }

func (f *filling) borrowFromRight() api.Errno { return f.borrow(f.at + 1) }

func (f *filling) borrowFromLeft() api.Errno { return f.borrow(f.at - 1) }

// joinRight takes the right neighbour: its items stand behind the child's.
func (f *filling) joinRight() api.Errno {
	taken := f.index.Items[f.at+1]
	right, e := f.v.Take(taken.Child)
	if e != api.OK {
		return e
	}
	both, _ := node.Join(f.page(f.at), right, taken.Key)
	f.index, _ = node.Remove(f.index, f.at+1)
	return f.write(f.at, both)
}

// joinLeft makes the left neighbour the child, into which it then goes: the one that was
// the child is its right neighbour, and is taken.
func (f *filling) joinLeft() api.Errno {
	f.at--
	if e := f.shadow(f.at); e != api.OK {
		return e
	}
	return f.joinRight()
}

// borrow lets a neighbour lend the child an item.
func (f *filling) borrow(giver int) api.Errno {
	if e := f.shadow(giver); e != api.OK {
		return e
	}
	left := min(f.at, giver)
	l, r, separator, _ := node.Lend(f.page(left), f.page(left+1), f.index.Items[left+1].Key, giver < f.at)
	f.index.Items[left+1].Key = separator
	if e := f.write(left, l); e != api.OK {
		return e
	}
	return f.write(left+1, r)
}

// items is how many items a child of the index has; none, if it is not there.
func (f *filling) items(at int) int { return len(f.page(at).Items) }

// page is what stands on a child of the index; the zero Page, if it is not there. Nothing
// but that comes of it, where it is joined or lent to, and write refuses it.
func (f *filling) page(at int) api.Page {
	if at < 0 || at >= len(f.index.Items) {
		return api.Page{}
	}
	p, _ := f.v.Read(f.index.Items[at].Child)
	return p
}

// write puts something else on a child of the index.
func (f *filling) write(at int, p api.Page) api.Errno {
	return f.v.Write(f.index.Items[at].Child, p)
}

// shadow shadows a child of the index, whose item leads to the shadow from then on.
func (f *filling) shadow(at int) api.Errno {
	n, e := f.v.Shadow(f.index.Items[at].Child)
	f.index.Items[at].Child = n
	return e
}
