package diff

import (
	"bytes"

	"coppice/api"
	"coppice/cut"
	"coppice/put"
	"coppice/vault"
	"coppice/walk"
)

// Apply does changes to a tree, one behind the other: all of them or none.
func Apply(v *vault.Vault, t api.Tree, l []api.Change) (api.Tree, api.Errno) {
	undo := undoing(v)
	for _, c := range l {
		next, e := apply(v, t, c)
		if e != api.OK {
			undo()
			return api.Tree{}, e
		}
		t = next
	}
	return t, api.OK
}

// undoing is what undoes all that is done to a vault from now on.
func undoing(v *vault.Vault) func() {
	if v == nil { // nothing can be done to it
		return func() {}
	}
	began := v.Mark()
	return func() { v.Undo(began) }
}

// apply does one change to a tree.
func apply(v *vault.Vault, t api.Tree, c api.Change) (api.Tree, api.Errno) {
	e := fault(c)
	if e == api.OK {
		e = staleness(v, t, c)
	}
	if e != api.OK {
		return api.Tree{}, e
	}
	if c.Kind == api.Removed {
		t, _, e = cut.Cut(v, t, c.Key)
	} else {
		t, _, e = put.Put(v, t, c.Key, c.New)
	}
	return t, e
}

// fault is what is wrong with a change whatever tree it is done to.
func fault(c api.Change) api.Errno {
	switch {
	case c.Kind != api.Added && c.Kind != api.Removed && c.Kind != api.Changed:
		return api.ErrKind
	case len(c.Key) == 0 || len(c.Key) > api.MaxKey:
		return api.ErrKey
	case c.Kind != api.Removed && len(c.New) > api.MaxValue:
		return api.ErrValue
	}
	return api.OK
}

// staleness is ErrStale, if a tree does not have at the change's key what it was made for.
func staleness(v *vault.Vault, t api.Tree, c api.Change) api.Errno {
	value, isThere, e := walk.Get(v, t, c.Key)
	adds := c.Kind == api.Added
	switch {
	case e != api.OK:
		return e
	case isThere == adds:
		return api.ErrStale
	case !adds && !bytes.Equal(value, c.Old):
		return api.ErrStale
	}
	return api.OK
}
