package bulk_test

import (
	"bytes"
	"fmt"
	"slices"
	"testing"

	"coppice/api"
	"coppice/bulk"
	"coppice/draw"
	"coppice/grove"
	"coppice/vault"
	"coppice/view"
)

// mark fills the spare room of rows; so many bytes of it there are, and so many pairs
// behind a list.
const mark, spareBytes, sparePairs = 0xC3, 2 * chunk, 12

// roomy is the row with spare room behind it, all of it marked.
func roomy(b []byte) []byte {
	return append(slices.Clone(b), bytes.Repeat([]byte{mark}, spareBytes)...)[:len(b)]
}

// isUntouched: are a roomy row and its spare room as they were?
func isUntouched(b, was []byte) bool {
	return bytes.Equal(b, was) && bytes.Equal(b[len(b):len(b)+spareBytes], bytes.Repeat([]byte{mark}, spareBytes))
}

// turn turns all bytes of a row, its spare room too.
func turn(b []byte) {
	b = b[:cap(b)]
	for k := range b {
		b[k] ^= 0xA5
	}
}

// roomyPairs is a list, each row of which has spare room, with pairs in its own.
func roomyPairs(l []api.Pair) []api.Pair {
	var given []api.Pair
	for _, x := range l {
		given = append(given, api.Pair{Key: roomy(x.Key), Value: roomy(x.Value)})
	}
	for range sparePairs {
		given = append(given, api.Pair{Key: roomy([]byte("spare")), Value: roomy([]byte("room"))})
	}
	return given[:len(l)]
}

// areUntouched: are such a list and its spare room as they were?
func areUntouched(given, was []api.Pair) bool {
	for k, x := range given {
		if !isUntouched(x.Key, was[k].Key) || !isUntouched(x.Value, was[k].Value) {
			return false
		}
	}
	for _, x := range given[len(was) : len(was)+sparePairs] {
		if !isUntouched(x.Key, []byte("spare")) || !isUntouched(x.Value, []byte("room")) {
			return false
		}
	}
	return len(given) == len(was)
}

// turnAll writes over all of such a list.
func turnAll(given []api.Pair) {
	given = given[:cap(given)]
	for k := range given {
		turn(given[k].Key)
		turn(given[k].Value)
		given[k] = api.Pair{Key: []byte("other"), Value: []byte("another")}
	}
}

// call is one of the calls, in a vault that it may change, with its list or its range in
// memory that the test has at hand.
type call struct {
	name      string
	do        func(v *vault.Vault) string // the answer, of rows without spare room
	roomy     func(v *vault.Vault) string // the same, of rows with spare room
	untouched func() bool                 // is what was handed in as it was?
	turn      func()                      // writes over all that was handed in
}

func loadCall(x api.Tree, l []api.Pair) call {
	given := roomyPairs(l)
	return call{
		"Load",
		func(v *vault.Vault) string { return fmt.Sprint(bulk.Load(v, x, slices.Clip(l))) },
		func(v *vault.Vault) string { return fmt.Sprint(bulk.Load(v, x, given)) },
		func() bool { return areUntouched(given, l) },
		func() { turnAll(given) },
	}
}

func buildCall(l []api.Pair) call {
	given := roomyPairs(l)
	return call{
		"Build",
		func(v *vault.Vault) string { return fmt.Sprint(bulk.Build(v, slices.Clip(l))) },
		func(v *vault.Vault) string { return fmt.Sprint(bulk.Build(v, given)) },
		func() bool { return areUntouched(given, l) },
		func() { turnAll(given) },
	}
}

func trimCall(x api.Tree, r api.Range) call {
	given := api.Range{Lo: roomy(r.Lo), Hi: roomy(r.Hi), Open: r.Open}
	return call{
		"Trim",
		func(v *vault.Vault) string { return fmt.Sprint(bulk.Trim(v, x, r)) },
		func(v *vault.Vault) string { return fmt.Sprint(bulk.Trim(v, x, given)) },
		func() bool { return isUntouched(given.Lo, r.Lo) && isUntouched(given.Hi, r.Hi) && given.Open == r.Open },
		func() { turn(given.Lo); turn(given.Hi) },
	}
}

// What is handed in is neither changed nor kept, its spare room included, whether the call
// is done or refused; and of it nothing but the bytes matters.
func TestR4WhatIsHandedIn(t *testing.T) {
	t.Parallel()
	r, met := draw.Numbers(431), met{}
	for round := range 200 {
		g := grove.Any(&r, 1+round%3)
		s, _ := grove.Settings(&r).Lay(&r, g)
		l := somePairs(&r, g, r.Below(12))
		rises := lastValues(l)
		if len(l) > 0 && r.Below(5) == 0 {
			l[r.Below(len(l))] = []api.Pair{{}, {Key: make([]byte, maxKey+1)}, pair("b", maxValue+1)}[r.Below(3)]
			rises[r.Below(len(rises))].Value = value(maxValue + 1)
		}
		for _, c := range []call{buildCall(rises), buildCall(l), loadCall(g.Tree, l), loadCall(empty, l), trimCall(g.Tree, someRange(&r, g))} {
			v, w := vaultOf(t, s), vaultOf(t, s)
			before, began := view.Vault(v), v.Mark()
			answer := c.roomy(v)
			equal(t, c.name+": what was handed in", c.untouched(), true)
			then := view.Vault(v)
			c.turn()
			equal(t, c.name+": what is kept", view.Vault(v), then)
			equal(t, c.name+" without spare room", c.do(w), answer)
			equal(t, c.name+": the vault, without spare room", view.Vault(w), then)
			v.Undo(began)
			equal(t, c.name+": the vault, undone behind it", view.Vault(v), before)
			met[c.name+" "+answer[len(answer)-2:]]++
		}
	}
	met.wants(t, 5, "Build  0", "Build  7", "Build  8", "Build 11", "Build 12", "Load  0", "Load  7", "Load  8", "Load 12", "Load 13", "Trim  0", "Trim 12", "Trim 13")
}

// Keys and values that are pieces of one row, each being the spare room of the one ahead,
// and pairs that are pieces of each other.
func TestR4PiecesOfOneRow(t *testing.T) {
	var row []byte
	for k := range 120 {
		row = append(row, byte(2*k), byte(2*k+1))
	}
	was := slices.Clone(row)
	var l []api.Pair
	for k := range 120 {
		l = append(l, api.Pair{Key: row[2*k : 2*k+1], Value: row[k : k+100]})
	}
	copies := make([]api.Pair, len(l))
	for k, x := range l {
		copies[k] = api.Pair{Key: slices.Clone(x.Key), Value: slices.Clone(x.Value)}
	}
	v, w := newVault(t, 600, 2), newVault(t, 600, 2)
	x, e := bulk.Build(v, l)
	equal(t, "Build", e, 0)
	y, e := bulk.Build(w, copies)
	equal(t, "Build of copies", fmt.Sprint(y, e), fmt.Sprint(x, api.OK))
	equal(t, "the row", bytes.Equal(row, was), true)
	slices.Reverse(l)
	slices.Reverse(copies)
	x, n, e := bulk.Load(v, empty, l)
	equal(t, "Load", e, 0)
	y, m, e := bulk.Load(w, empty, copies)
	equal(t, "Load of copies", fmt.Sprint(y, m, e), fmt.Sprint(x, n, api.OK))
	equal(t, "the row", bytes.Equal(row, was), true)
	x, n, e = bulk.Trim(v, x, api.Range{Lo: row[60:61], Hi: row[120:121]})
	equal(t, "Trim", fmt.Sprint(n, e), fmt.Sprint(30, api.OK))
	y, m, e = bulk.Trim(w, y, api.Range{Lo: []byte{60}, Hi: []byte{120}})
	equal(t, "Trim by copies", fmt.Sprint(y, m, e), fmt.Sprint(x, n, api.OK))
	equal(t, "the row", bytes.Equal(row, was), true)
	equal(t, "the vaults", view.Vault(v), view.Vault(w))
}

// nil and an empty list are the same, also inside of pairs and ranges.
func TestR3Lists(t *testing.T) {
	none := [][]byte{nil, {}, roomy(nil)}
	v, w := newVault(t, 40, 2), newVault(t, 40, 2)
	for _, a := range none {
		buildsNot(t, v, []api.Pair{{Key: a, Value: value(3)}}, errKey)
		loadsNot(t, v, empty, []api.Pair{{Key: a}}, errKey)
		began := v.Mark()
		x, e := bulk.Build(v, []api.Pair{{Key: []byte("a"), Value: a}})
		equal(t, "Build", fmt.Sprint(x, e), fmt.Sprint(tree(1, 1, 1), api.OK))
		x, n, e := bulk.Load(v, x, []api.Pair{{Key: []byte("b"), Value: a}, {Key: []byte("c"), Value: a}})
		equal(t, "Load", fmt.Sprint(x, n, e), fmt.Sprint(tree(1, 1, 3), 2, api.OK))
		y, _ := bulk.Build(w, []api.Pair{{Key: []byte("a")}, {Key: []byte("b")}, {Key: []byte("c")}})
		equal(t, "the same tree", view.Vault(v), view.Vault(w))
		for _, b := range none {
			unchanged(t, v, func() {
				y, n, e := bulk.Trim(v, x, api.Range{Lo: a, Hi: b})
				equal(t, "Trim by no range", fmt.Sprint(y, n, e), fmt.Sprint(x, 0, api.OK))
			})
			then := v.Mark()
			y, n, e := bulk.Trim(v, x, api.Range{Lo: a, Hi: b, Open: true})
			equal(t, "Trim by all", fmt.Sprint(y, n, e), fmt.Sprint(empty, 3, api.OK))
			v.Undo(then)
		}
		v.Undo(began)
		w.Drop(y.Root)
	}
}
