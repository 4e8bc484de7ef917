package put_test

import (
	"bytes"
	"slices"
	"testing"

	"coppice/api"
	"coppice/draw"
	"coppice/grove"
	"coppice/put"
	"coppice/view"
)

// mark fills the spare room of rows; so many bytes of it there are.
const mark, spare = 0xC3, 2 * chunk

// roomy is the row with spare room behind it, all of it marked.
func roomy(b []byte) []byte {
	return append(slices.Clone(b), bytes.Repeat([]byte{mark}, spare)...)[:len(b)]
}

// untouched: are a roomy row and its spare room as they were?
func untouched(b, was []byte) bool {
	return bytes.Equal(b, was) && bytes.Equal(b[len(b):len(b)+spare], bytes.Repeat([]byte{mark}, spare))
}

// turn turns all bytes of a row, its spare room too.
func turn(b []byte) {
	b = b[:cap(b)]
	for k := range b {
		b[k] ^= 0xA5
	}
}

// What is handed in is neither changed nor kept, its spare room included, whether the put
// is done or refused; and of it nothing but the bytes matters.
func TestR4WhatIsHandedIn(t *testing.T) {
	r, met := draw.Numbers(181), map[api.Errno]int{}
	for round := range 300 {
		g := grove.Any(&r, 1+round%3)
		c := grove.Settings(&r)
		s, trees := c.Lay(&r, g)
		x := trees[0]
		if round%5 == 0 {
			x = empty
		}
		k, val := g.SomeKey(&r), someValue(&r, 3)
		switch round % 50 {
		case 1:
			k = make([]byte, maxKey+1)
		case 2:
			val = make([]byte, maxValue+1)
		}
		v, w := vaultOf(t, s), vaultOf(t, s)
		key, value := roomy(k), roomy(val)
		y, is, e := put.Put(v, x, key, value)
		met[e]++
		equal(t, "what was handed in", untouched(key, k) && untouched(value, val), true)
		seen := view.Vault(v)
		turn(key)
		turn(value)
		equal(t, "what is kept", view.Vault(v), seen)
		z, was, f := put.Put(w, x, slices.Clip(k), slices.Clip(val))
		equal(t, "without spare room", z == y && was == is && f == e, true)
		equal(t, "the vault, without spare room", view.Vault(w), seen)
	}
	for _, e := range []api.Errno{0, errKey, errValue, errSpace, errRefs} {
		equal(t, "of each some", met[e] > 2, true)
	}
}

// A key and a value that are one piece of memory.
func TestR4KeyAndValueOfOneList(t *testing.T) {
	for n := 1; n <= maxKey; n++ {
		v := newVault(t, 4, 2)
		all := value(n)
		x, _, _ := put.Put(v, empty, all, all)
		turn(all)
		equal(t, "the pair", told(pairs(t, v, x)), told([]api.Pair{{Key: value(n), Value: value(n)}}))
	}
}

// nil and an empty list are the same.
func TestR3Lists(t *testing.T) {
	a, b := newVault(t, 4, 2), newVault(t, 4, 2)
	x := puts(t, a, empty, []byte("k"), nil, tree(1, 1, 1), false)
	y := puts(t, b, empty, []byte("k"), []byte{}, tree(1, 1, 1), false)
	equal(t, "the vault", view.Vault(a), view.Vault(b))
	equal(t, "the pair", told(pairs(t, a, x)), "6b= ")
	puts(t, a, x, []byte("k"), []byte{}, x, true)
	puts(t, b, y, []byte("k"), nil, y, true)
	equal(t, "the vault", view.Vault(a), view.Vault(b))
	for _, key := range [][]byte{nil, {}, roomy(nil)} {
		putsNot(t, a, x, key, []byte("v"), errKey)
		putsNot(t, a, empty, key, nil, errKey)
	}
}
