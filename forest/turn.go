package forest

import (
	"slices"

	"coppice/api"
)

// undoing keeps what the forest has, and answers what puts all of it back, if there is an
// error by then.
func (f *Forest) undoing(e *api.Errno) func() {
	mark, was := f.vault.Mark(), f.Super()
	return func() {
		if *e != api.OK {
			f.vault.Undo(mark)
			f.coming = was
		}
	}
}

// turn lets what comes of the tree of an id be the id's tree, and tells what was told
// beside it.
func turn[T any](f *Forest, id int, act func(t api.Tree) (api.Tree, T, api.Errno)) (told T, e api.Errno) {
	defer f.undoing(&e)()
	at, e := f.at(id)
	if e != api.OK {
		return told, e
	}
	t, told, e := act(f.coming.Roots[at].Tree)
	f.coming.Roots[at].Tree = t
	return told, e
}

// add gives a tree the next id.
func (f *Forest) add(t api.Tree) (int, api.Errno) {
	id := f.coming.Next
	if len(f.coming.Roots) >= f.coming.Config.Clones {
		return 0, api.ErrClones
	}
	if id > api.MaxId {
		return 0, api.ErrMany
	}
	f.coming.Roots = append(f.coming.Roots, api.Root{Id: id, Tree: t}) // rising still: no id is above the next one
	f.coming.Next++
	return id, api.OK
}

// at is the place of an id among the roots.
func (f *Forest) at(id int) (int, api.Errno) {
	if f.isDead {
		return 0, api.ErrDown
	}
	at := slices.IndexFunc(f.coming.Roots, func(r api.Root) bool { return r.Id == id })
	if at < 0 {
		return 0, api.ErrNone
	}
	return at, api.OK
}

// tree is the tree of an id.
func (f *Forest) tree(id int) (api.Tree, api.Errno) {
	at, e := f.at(id)
	if e != api.OK {
		return api.Tree{}, e
	}
	return f.coming.Roots[at].Tree, api.OK
}
