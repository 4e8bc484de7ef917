package diff_test

import (
	"slices"
	"testing"

	"coppice/api"
	"coppice/cut"
	"coppice/grove"
	"coppice/put"
	"coppice/vault"
)

// What the calls must tell and do, as the chapter says it, slow and plain.

// family is what a tree has at its keys.
func family(l []api.Pair) map[string]string {
	m := map[string]string{}
	for _, x := range l {
		m[string(x.Key)] = string(x.Value)
	}
	return m
}

// modelList is what differs from the pairs of a to those of b.
func modelList(a, b []api.Pair) []api.Change {
	mine, theirs := family(a), family(b)
	keys := map[string]int{}
	for _, x := range slices.Concat(a, b) {
		keys[string(x.Key)]++
	}
	var sorted []string
	for key := range keys {
		sorted = append(sorted, key)
	}
	slices.Sort(sorted)
	var l []api.Change
	for _, key := range sorted {
		old, isOld := mine[key]
		now, isNow := theirs[key]
		switch {
		case !isOld:
			l = append(l, change(added, key, "", now))
		case !isNow:
			l = append(l, change(removed, key, old, ""))
		case old != now:
			l = append(l, change(changed, key, old, now))
		}
	}
	return l
}

// modelRead is the pages that are reached from one of two trees alone, rising.
func modelRead(v *vault.Vault, a, b api.Tree) []int {
	mine, theirs := grove.Led(v, a), grove.Led(v, b)
	var l []int
	for n := 1; n <= v.Len(); n++ {
		if (mine[n] > 0) != (theirs[n] > 0) {
			l = append(l, n)
		}
	}
	return l
}

// sharedPages is the pages that are reached from both of two trees.
func sharedPages(v *vault.Vault, a, b api.Tree) []int {
	mine, theirs := grove.Led(v, a), grove.Led(v, b)
	var l []int
	for n := 1; n <= v.Len(); n++ {
		if mine[n] > 0 && theirs[n] > 0 {
			l = append(l, n)
		}
	}
	return l
}

// modelFault is the error of a change that is to be done to what has these pairs.
func modelFault(have map[string]string, c api.Change) api.Errno {
	if c.Kind < added || c.Kind > changed {
		return errKind
	}
	if len(c.Key) < 1 || len(c.Key) > maxKey {
		return errKey
	}
	if c.Kind != removed && len(c.New) > maxValue {
		return errValue
	}
	was, isThere := have[string(c.Key)]
	if c.Kind == added && isThere || c.Kind != added && (!isThere || was != string(c.Old)) {
		return errStale
	}
	return 0
}

// came is what comes of changes that are done: the store and the tree then, and, with an
// error, at which of them it was.
type came struct {
	then *grove.Store
	tree api.Tree
	e    api.Errno
	at   int
}

// modelApply does the changes one behind the other, in a vault of its own.
func modelApply(t *testing.T, s *grove.Store, x api.Tree, l []api.Change) came {
	t.Helper()
	v := vaultOf(t, s)
	have := family(pairs(t, v, x))
	for at, c := range l {
		e := modelFault(have, c)
		switch {
		case e != 0:
		case c.Kind == removed:
			x, _, e = cut.Cut(v, x, c.Key)
			delete(have, string(c.Key))
		default:
			x, _, e = put.Put(v, x, c.Key, c.New)
			have[string(c.Key)] = string(c.New)
		}
		if e != 0 {
			return came{s, empty, e, at}
		}
	}
	return came{grove.StoreFrom(v), x, 0, 0}
}

// modelTurn is the changes turned about.
func modelTurn(l []api.Change) []api.Change {
	var turned []api.Change
	for k := len(l) - 1; k >= 0; k-- {
		c := api.Change{Kind: l[k].Kind, Key: l[k].Key, Old: l[k].New, New: l[k].Old}
		if c.Kind == added || c.Kind == removed {
			c.Kind = added + removed - c.Kind
		}
		turned = append(turned, c)
	}
	return turned
}
