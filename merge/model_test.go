package merge_test

import (
	"slices"
	"testing"

	"coppice/api"
	"coppice/cut"
	"coppice/grove"
	"coppice/put"
	"coppice/vault"
)

// What the calls must tell and do, as the chapter says it, slow and plain.

// has is what a tree has at a key: its value there, or nothing.
type has struct {
	is    bool
	value string
}

// row is a key, and what base, ours and theirs have there.
type row struct {
	key                string
	base, ours, theirs has
}

// family is what a tree has at its keys.
func family(l []api.Pair) map[string]has {
	m := map[string]has{}
	for _, x := range l {
		m[string(x.Key)] = has{true, string(x.Value)}
	}
	return m
}

// modelRows is all keys of three trees, rising, with what they have there.
func modelRows(base, ours, theirs []api.Pair) []row {
	b, o, th := family(base), family(ours), family(theirs)
	keys := map[string]int{}
	for _, x := range slices.Concat(base, ours, theirs) {
		keys[string(x.Key)]++
	}
	var l []row
	for key := range keys {
		l = append(l, row{key, b[key], o[key], th[key]})
	}
	slices.SortFunc(l, func(x, y row) int {
		if x.key < y.key {
			return -1
		}
		return 1
	})
	return l
}

func (x row) isConflict() bool {
	return x.ours != x.base && x.theirs != x.base && x.ours != x.theirs
}

// comes is what comes of the key by a rule.
func (x row) comes(rule int) has {
	if x.ours == x.base {
		return x.theirs
	}
	if x.theirs == x.base || x.theirs == x.ours {
		return x.ours
	}
	if rule == byTheirs {
		return x.theirs
	}
	return x.ours
}

// kind is what kind of key it is.
func (x row) kind() string {
	side := func(h has) string {
		switch {
		case h == x.base:
			return "as it was"
		case !h.is:
			return "cut"
		case !x.base.is:
			return "added"
		}
		return "changed"
	}
	kind := side(x.ours) + ", " + side(x.theirs)
	if x.ours != x.base && x.ours == x.theirs {
		kind += ", alike"
	}
	return kind
}

// modelConflicts is the conflicts among rows.
func modelConflicts(l []row) []api.Conflict {
	var conflicts []api.Conflict
	for _, x := range l {
		if x.isConflict() {
			conflicts = append(conflicts, api.Conflict{
				Key: []byte(x.key), Base: []byte(x.base.value), Ours: []byte(x.ours.value), Theirs: []byte(x.theirs.value),
				Has: [3]bool{x.base.is, x.ours.is, x.theirs.is},
			})
		}
	}
	return conflicts
}

// modelPairs is what the tree has that comes of rows by a rule.
func modelPairs(l []row, rule int) []api.Pair {
	var then []api.Pair
	for _, x := range l {
		if h := x.comes(rule); h.is {
			then = append(then, api.Pair{Key: []byte(x.key), Value: []byte(h.value)})
		}
	}
	return then
}

// came is what a Merge answers, and the store then; how many keys of how many were put or
// cut until it ended.
type came struct {
	then      *grove.Store
	tree      api.Tree
	conflicts []api.Conflict
	e         api.Errno
	done, of  int
}

// taken is the rows at which something else comes than ours has.
func taken(l []row, rule int) []row {
	return slices.DeleteFunc(slices.Clone(l), func(x row) bool { return x.comes(rule) == x.ours })
}

// modelMerge is what comes of rows, and of ours, in a vault of its own.
func modelMerge(t *testing.T, s *grove.Store, ours api.Tree, l []row, rule int) came {
	t.Helper()
	conflicts := modelConflicts(l)
	if rule < mergeFail || rule > byTheirs {
		return came{then: s, e: errArg}
	}
	if rule == mergeFail && len(conflicts) > 0 {
		return came{then: s, e: errMerge, conflicts: conflicts}
	}
	v, some := vaultOf(t, s), taken(l, rule)
	for done, x := range some {
		next, e := modelStep(v, ours, x.key, x.comes(rule))
		if e != 0 {
			return came{then: s, e: e, done: done, of: len(some)}
		}
		ours = next
	}
	return came{grove.StoreFrom(v), ours, conflicts, 0, len(some), len(some)}
}

// modelStep is a tree that has this at a key.
func modelStep(v *vault.Vault, x api.Tree, key string, h has) (api.Tree, api.Errno) {
	var e api.Errno
	if h.is {
		x, _, e = put.Put(v, x, []byte(key), []byte(h.value))
	} else {
		x, _, e = cut.Cut(v, x, []byte(key))
	}
	return x, e
}
