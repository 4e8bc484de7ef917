package merge

import (
	"bytes"
	"slices"

	"coppice/api"
	"coppice/diff"
	"coppice/span"
	"coppice/vault"
)

// outcomeOf works out what comes of the keys by a rule: which of theirs' changes are taken
// into ours, and the conflicts. What both sides have changed is found once, ahead of
// changing anything: ours may be base or theirs itself, and is another one then.
func outcomeOf(v *vault.Vault, base, ours, theirs api.Tree) (func(rule int) ([]api.Change, []api.Conflict), api.Errno) {
	all := api.Range{Open: true}
	mine, e := diff.List(v, base, ours, all)
	if e != api.OK {
		return nil, e
	}
	others, e := diff.List(v, base, theirs, all)
	if e != api.OK {
		return nil, e
	}
	// A key that theirs has not changed stays as ours has it: it need not be looked at.
	return func(rule int) (taken []api.Change, conflicts []api.Conflict) {
		for _, c := range others {
			k := meeting{theirs: c}
			if at, met := slices.BinarySearchFunc(mine, c, byKey); met {
				k.ours = mine[at]
			}
			if k.isConflict() {
				conflicts = append(conflicts, k.conflict())
			}
			if k.isTaken(rule) {
				taken = append(taken, c)
			}
		}
		return taken, conflicts
	}, api.OK
}

func byKey(a, b api.Change) int { return span.Compare(a.Key, b.Key) }

// meeting is what both sides have made of a key that theirs has changed; the Kind of ours
// is 0, if it has there what base has.
type meeting struct{ ours, theirs api.Change }

func (k meeting) isOursToo() bool { return k.ours.Kind != 0 }

// isConflict: has each side changed the key in its own way?
func (k meeting) isConflict() bool {
	return k.isOursToo() && (isThere(k.ours) != isThere(k.theirs) || !bytes.Equal(k.ours.New, k.theirs.New))
}

// isThere: is the key there behind a change?
func isThere(c api.Change) bool { return c.Kind != api.Removed }

// conflict is the key as a conflict.
func (k meeting) conflict() api.Conflict {
	return api.Conflict{
		Key: k.theirs.Key, Base: k.theirs.Old, Ours: k.ours.New, Theirs: k.theirs.New,
		Has: [3]bool{k.theirs.Kind != api.Added, isThere(k.ours), isThere(k.theirs)},
	}
}

// isTaken: does what theirs has come of the key by a rule?
func (k meeting) isTaken(rule int) bool {
	switch rule {
	case api.MergeTheirs:
		if k.isConflict() {
			return true
		}
		fallthrough // where there is no conflict, all rules say the same
	default:
		return !k.isOursToo()
	}
}
