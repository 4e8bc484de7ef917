package cursor

import (
	"bytes"

	"coppice/api"
	"coppice/vault"
	"coppice/walk"
)

// place is where a cursor is. Each place has one form, so that two of them are held
// against each other as they are.
type place struct {
	side side
	key  string // of a place at a key; a text, since it stays as it is, whoever has the bytes
}

// side is on which side of the keys a place is, or that it is at one of them.
type side int

const (
	ahead side = iota
	at
	behind
)

func aheadOfAll() place { return place{side: ahead} }

func behindAll() place { return place{side: behind} }

// atKey is the place at a key, or at any other row of bytes.
func atKey(key []byte) place { return place{side: at, key: string(key)} }

func (p place) isAtKey() bool { return p != aheadOfAll() && p != behindAll() }

// trip is a walk to the key of a tree that is nearest to where it begins.
type trip struct {
	vault *vault.Vault
	tree  api.Tree
	from  place
}

// on leads to the least key above the place.
func (w trip) on() (place, api.Errno) {
	switch {
	case w.from == behindAll():
		return behindAll(), api.OK
	case w.from == aheadOfAll():
		return w.least(nil)
	}
	return w.least(append([]byte(w.from.key), 0))
}

// onto leads to the least key that is not below the row at which the place is.
func (w trip) onto() (place, api.Errno) { return w.least([]byte(w.from.key)) }

// back leads to the greatest key below the place.
func (w trip) back() (place, api.Errno) {
	switch {
	case w.from == aheadOfAll():
		return aheadOfAll(), api.OK
	case w.from == behindAll():
		return w.greatest(greatestKey())
	}
	return w.greatest(below(w.from.key))
}

// least is the place at the least key that is not below a row; behind all, if there is
// none.
func (w trip) least(row []byte) (place, api.Errno) {
	x, isThere, e := walk.Ceil(w.vault, w.tree, row)
	if !isThere {
		return behindAll(), e
	}
	return atKey(x.Key), e
}

// greatest is the place at the greatest key that is not above a row; ahead of all, if
// there is none.
func (w trip) greatest(row []byte) (place, api.Errno) {
	x, isThere, e := walk.Floor(w.vault, w.tree, row)
	if !isThere {
		return aheadOfAll(), e
	}
	return atKey(x.Key), e
}

// greatestKey is the key above which there is none.
func greatestKey() []byte { return bytes.Repeat([]byte{0xff}, api.MaxKey) }

// below is a row between which and the key there is none. (Of all rows of bytes below one
// none is the greatest, but no key is longer than MaxKey.)
func below(key string) []byte {
	last := len(key) - 1
	if key[last] == 0 {
		return []byte(key[:last])
	}
	row := greatestKey()
	copy(row, key)
	row[last]--
	return row
}
