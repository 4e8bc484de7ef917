package cursor_test

import (
	"fmt"
	"testing"

	"coppice/api"
	"coppice/cursor"
	"coppice/draw"
	"coppice/vault"
)

// Where a place is.
const (
	ahead = iota
	at
	behind
)

// place is ahead of all keys, at one, or behind all.
type place struct {
	side int
	key  string
}

func (p place) isBelow(key string) bool { return p.side == ahead || p.side == at && p.key < key }

func (p place) isAbove(key string) bool { return p.side == behind || p.side == at && p.key > key }

// model is a cursor out of the chapter's words: for each call it goes through all pairs of
// its tree.
type model struct {
	of    known
	place place
	err   api.Errno
}

// looks: is the tree there, and was it so before?
func (m *model) looks() bool {
	if m.of.gone {
		m.err = errPage
	}
	return m.err == 0
}

// least goes to the least key that is wanted, or behind all.
func (m *model) least(isWanted func(key string) bool) bool {
	if !m.looks() {
		return false
	}
	found := place{side: behind}
	for _, x := range m.of.pairs {
		if k := string(x.Key); isWanted(k) && found.isAbove(k) {
			found = place{at, k}
		}
	}
	m.place = found
	return found.side == at
}

// greatest goes to the greatest key that is wanted, or ahead of all.
func (m *model) greatest(isWanted func(key string) bool) bool {
	if !m.looks() {
		return false
	}
	found := place{side: ahead}
	for _, x := range m.of.pairs {
		if k := string(x.Key); isWanted(k) && found.isBelow(k) {
			found = place{at, k}
		}
	}
	m.place = found
	return found.side == at
}

// at is the pair at the place, and whether there is one.
func (m *model) at() (api.Pair, bool) {
	if m.looks() && m.place.side == at {
		for _, x := range m.of.pairs {
			if string(x.Key) == m.place.key {
				return x, true
			}
		}
	}
	return api.Pair{}, false
}

// held is a cursor that is held against its model: each call is asked of both.
type held struct {
	t *testing.T
	c *cursor.Cursor
	m model
}

// hold is a new cursor of a tree.
func hold(t *testing.T, v *vault.Vault, x known) *held {
	t.Helper()
	h := &held{t, cursor.New(v, x.tree), model{of: x}}
	h.err("New")
	return h
}

// err: Err is what the model's is.
func (h *held) err(behind string) api.Errno {
	h.t.Helper()
	e := h.c.Err()
	equal(h.t, "Err behind "+behind, e, h.m.err)
	return e
}

// told holds an answer against that of the model, and Err behind it.
func (h *held) told(what string, got, want bool) bool {
	h.t.Helper()
	if got != want {
		h.t.Fatalf("%s: %v, want %v; the place is %v now, of %d keys", what, got, want, h.m.place, len(h.m.of.pairs))
	}
	h.err(what)
	return got
}

func (h *held) next() bool {
	h.t.Helper()
	return h.told("Next", h.c.Next(), h.m.least(h.m.place.isBelow))
}

func (h *held) prev() bool {
	h.t.Helper()
	return h.told("Prev", h.c.Prev(), h.m.greatest(h.m.place.isAbove))
}

func (h *held) seek(row []byte) bool {
	h.t.Helper()
	return h.told(fmt.Sprintf("Seek(%q)", row), h.c.Seek(row), h.m.least(func(key string) bool { return key >= string(row) }))
}

func (h *held) first() bool {
	h.t.Helper()
	return h.told("First", h.c.First(), h.m.least(func(string) bool { return true }))
}

func (h *held) last() bool {
	h.t.Helper()
	return h.told("Last", h.c.Last(), h.m.greatest(func(string) bool { return true }))
}

// at is the pair at the place; false, if there is none.
func (h *held) at() (api.Pair, bool) {
	h.t.Helper()
	x, is := h.c.At()
	want, wantIs := h.m.at()
	h.told("At", is, wantIs)
	equal(h.t, "the pair of At", told(x), told(want))
	return x, is
}

func (h *held) move(x known) {
	h.t.Helper()
	h.c.Move(x.tree)
	h.m.of, h.m.err = x, 0
	h.err("Move")
}

// key is the key at which the place is; none, if it is at none that is in the tree.
func (h *held) key() string {
	h.t.Helper()
	x, _ := h.at()
	return string(x.Key)
}

// calls is each of the calls that look into the tree, by its name.
func (h *held) calls(row []byte) []struct {
	name string
	do   func() bool
} {
	return []struct {
		name string
		do   func() bool
	}{
		{"Next", h.next}, {"Prev", h.prev}, {"Seek", func() bool { return h.seek(row) }},
		{"First", h.first}, {"Last", h.last}, {"At", func() bool { _, is := h.at(); return is }},
	}
}

// any does one of the calls; it goes on and back more often than it jumps.
func (h *held) any(r *draw.Numbers, row []byte) string {
	h.t.Helper()
	c := h.calls(row)[[]int{0, 0, 0, 0, 1, 1, 1, 1, 2, 2, 3, 4, 5, 5}[r.Below(14)]]
	c.do()
	return c.name
}

// tells that the place is where the model has it, whatever is asked: At, and what comes
// next on both sides of it. The place is as it was behind it.
func (h *held) tells(v *vault.Vault) {
	h.t.Helper()
	if h.m.err != 0 || h.m.of.gone {
		return
	}
	h.at()
	back := h.m.place
	h.next()
	h.at()
	h.to(v, back)
	h.prev()
	h.at()
	h.to(v, back)
}

// to goes to a place, which need not be at a key of the tree: by way of another tree that
// has that key alone.
func (h *held) to(v *vault.Vault, p place) {
	h.t.Helper()
	mark, x := v.Mark(), h.m.of
	switch p.side {
	case ahead:
		h.move(nothing())
		h.prev()
	case behind:
		h.move(nothing())
		h.next()
	default:
		h.move(built(h.t, v, []api.Pair{{Key: []byte(p.key)}}))
		h.first()
	}
	v.Undo(mark)
	h.move(x)
	equal(h.t, "the place", h.m.place, p)
}
