package diff

import (
	"bytes"

	"coppice/api"
	"coppice/blob"
	"coppice/span"
	"coppice/vault"
)

// both is what two trees have at a key; the zero Item: nothing.
type both struct{ old, now api.Item }

// sideBySide goes through two rows of items, both by rising keys, and puts together what
// they have at each key.
func sideBySide(a, b []api.Item) []both {
	var l []both
	next := 0 // of b
items:
	for _, old := range a {
		for next < len(b) {
			now := b[next]
			order := span.Compare(now.Key, old.Key)
			if order > 0 {
				break
			}
			next++
			if order == 0 {
				l = append(l, both{old, now})
				continue items
			}
			l = append(l, both{now: now})
		}
		l = append(l, both{old: old})
	}
	for _, now := range b[next:] {
		l = append(l, both{now: now})
	}
	return l
}

// changes are those keys at which something differs, and how.
func changes(v *vault.Vault, l []both) ([]api.Change, api.Errno) {
	var differ []api.Change
	for _, x := range l {
		c, differs, e := x.change(v)
		if e != api.OK {
			return nil, e
		}
		if differs {
			differ = append(differ, c)
		}
	}
	return differ, api.OK
}

// change is how the key's value differs; false, if it does not.
func (x both) change(v *vault.Vault) (api.Change, bool, api.Errno) {
	if x.isOneBlob() {
		return api.Change{}, false, api.OK
	}
	old, e := blob.Load(v, x.old)
	if e != api.OK {
		return api.Change{}, false, e
	}
	now, e := blob.Load(v, x.now)
	if e != api.OK {
		return api.Change{}, false, e
	}
	switch {
	case len(x.old.Key) == 0:
		return api.Change{Kind: api.Added, Key: x.now.Key, New: now}, true, api.OK
	case len(x.now.Key) == 0:
		return api.Change{Kind: api.Removed, Key: x.old.Key, Old: old}, true, api.OK
	case bytes.Equal(old, now):
		return api.Change{}, false, api.OK
	}
	return api.Change{Kind: api.Changed, Key: x.old.Key, Old: old, New: now}, true, api.OK
}

// isOneBlob: do both have the value on the same pages? Then these need not be read.
func (x both) isOneBlob() bool { return x.old.Child != 0 && x.old.Child == x.now.Child }
