package cut_test

import (
	"bytes"
	"slices"
	"testing"

	"coppice/api"
	"coppice/cut"
	"coppice/draw"
	"coppice/grove"
	"coppice/view"
)

// mark fills the spare room of rows; so many bytes of it there are.
const mark, spare = 0xC3, 2 * chunk

// roomy is the row with spare room behind it, all of it marked.
func roomy(b []byte) []byte {
	return append(slices.Clone(b), bytes.Repeat([]byte{mark}, spare)...)[:len(b)]
}

// untouched: are a roomy row and its spare room as they were?
func untouched(b, was []byte) bool {
	return bytes.Equal(b, was) && bytes.Equal(b[len(b):len(b)+spare], bytes.Repeat([]byte{mark}, spare))
}

// turn turns all bytes of a row, its spare room too.
func turn(b []byte) {
	b = b[:cap(b)]
	for k := range b {
		b[k] ^= 0xA5
	}
}

// What is handed in is neither changed nor kept, its spare room included, whether the cut
// is done or refused, or the key is not there; and of it nothing but the bytes matters.
func TestR4WhatIsHandedIn(t *testing.T) {
	t.Parallel()
	r, met := draw.Numbers(291), map[api.Errno]int{}
	for round := range 400 {
		g := someTree(&r, 1+round%3)
		s, trees := grove.Settings(&r).Lay(&r, g)
		x, k := trees[0], keyOf(&r, g)
		switch round % 50 {
		case 0:
			x = empty
		case 1:
			k = make([]byte, maxKey+1)
		case 2:
			k = nil
		}
		v, w := vaultOf(t, s), vaultOf(t, s)
		before, began := view.Vault(v), v.Mark()
		key := roomy(k)
		y, is, e := cut.Cut(v, x, key)
		met[e]++
		equal(t, "what was handed in", untouched(key, k), true)
		seen := view.Vault(v)
		turn(key)
		equal(t, "what is kept", view.Vault(v), seen)
		z, was, f := cut.Cut(w, x, slices.Clip(k))
		equal(t, "without spare room", z == y && was == is && f == e, true)
		equal(t, "the vault, without spare room", view.Vault(w), seen)
		v.Undo(began)
		equal(t, "the vault, undone behind it", view.Vault(v), before)
	}
	for _, e := range []api.Errno{0, errKey, errSpace, errRefs} {
		equal(t, "of each some", met[e] > 2, true)
	}
}

// nil and an empty list are the same.
func TestR3Lists(t *testing.T) {
	v := newVault(t, 4, 2)
	x := grown(t, v, "abc")
	for _, key := range [][]byte{nil, {}, roomy(nil)} {
		cutsNot(t, v, x, key, errKey)
		cutsNot(t, v, empty, key, errKey)
	}
}
