package vault

import "coppice/api"

// change is what stood on a page ahead of something else; the zero Page: nothing.
type change struct {
	n   int
	was api.Page
}

// place is how far things had come: what the pool's Mark was, and how many changes
// there were of what stands on pages.
type place struct{ counts, changes int }

func (v *Vault) here() place { return place{v.Pool.Mark(), len(v.changes)} }

// lay puts p on a page, or, if it is the zero Page, takes away what stands there;
// and keeps how to undo that.
func (v *Vault) lay(n int, p api.Page) {
	v.changes = append(v.changes, change{n, v.on[n]})
	v.set(n, p)
}

func (v *Vault) set(n int, p api.Page) {
	if p.Kind == 0 {
		delete(v.on, n)
	} else {
		v.on[n] = p
	}
}

// end ends a call that began there: with an error nothing of it is left, else it
// was an act.
func (v *Vault) end(began place, e api.Errno) api.Errno {
	if e != api.OK {
		v.back(began)
	} else {
		v.acts = append(v.acts, began)
	}
	return e
}

// back undoes all that was done behind a place.
func (v *Vault) back(to place) {
	v.Pool.Undo(to.counts)
	for last := len(v.changes) - 1; last >= to.changes; last-- {
		v.set(v.changes[last].n, v.changes[last].was)
	}
	clear(v.changes[to.changes:]) // lets go of what stood there
	v.changes = v.changes[:to.changes]
}

// Mark is a place to which what is done from now on can be undone.
func (v *Vault) Mark() int { return v.floor + len(v.acts) }

// Undo undoes what was done behind a mark.
func (v *Vault) Undo(mark int) bool {
	if mark < v.floor || mark > v.Mark() {
		return false
	}
	if mark < v.Mark() {
		first := mark - v.floor
		v.back(v.acts[first])
		v.acts = v.acts[:first]
	}
	return true
}

// Settle makes what is now what lasts.
func (v *Vault) Settle() {
	for n := range v.Pool.Pages(api.Pending) {
		delete(v.on, n)
	}
	v.Pool.Settle()
	v.floor, v.acts, v.changes = v.Mark(), nil, nil
}
