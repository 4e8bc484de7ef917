package cursor_test

import (
	"bytes"
	"fmt"
	"slices"
	"testing"

	"coppice/api"
	"coppice/cursor"
	"coppice/draw"
	"coppice/grove"
	"coppice/vault"
	"coppice/view"
)

// mark fills the spare room of rows; so many bytes of it there are.
const mark, spareBytes = 0xC3, 100

// roomy is the row with spare room behind it, all of it marked.
func roomy(b []byte) []byte {
	return append(slices.Clone(b), bytes.Repeat([]byte{mark}, spareBytes)...)[:len(b)]
}

// isUntouched: are a roomy row and its spare room as they were?
func isUntouched(b, was []byte) bool {
	return bytes.Equal(b, was) && bytes.Equal(b[len(b):len(b)+spareBytes], bytes.Repeat([]byte{mark}, spareBytes))
}

// turn turns all bytes of a row, its spare room too.
func turn(b []byte) {
	b = b[:cap(b)]
	for k := range b {
		b[k] ^= 0xA5
	}
}

// R4: the key of Seek is neither changed nor kept, its spare room included, and of it
// nothing but the bytes matters.
func TestR4SeekKeepsNothing(t *testing.T) {
	t.Parallel()
	met := met{}
	scenes(t, 561, 3, func(r *draw.Numbers, v *vault.Vault, g *grove.Grown) {
		h := hold(t, v, of(g))
		for _, row := range g.Rows(r, 8) {
			for _, do := range []func() bool{h.next, h.prev} {
				given := roomy(row)
				met[fmt.Sprint(h.seek(given))]++
				equal(t, "what was handed in", isUntouched(given, row), true)
				turn(given)
				h.at()
				do()
				h.at()
			}
		}
	})
	met.wants(t, 100, "true", "false")
}

// R4: pieces of one row as keys of Seek, one behind the other.
func TestR4PiecesOfOneRow(t *testing.T) {
	v := newVault(t, 40, 2)
	row := []byte("bcbdbebf")
	was := slices.Clone(row)
	var l []api.Pair
	for _, key := range []string{"b", "bc", "bcb", "bd", "be", "c", "cb", "d", "f"} {
		l = append(l, api.Pair{Key: []byte(key), Value: []byte(key)})
	}
	h := hold(t, v, built(t, v, l))
	for from := range row {
		for to := from; to <= len(row); to++ {
			h.seek(row[from:to])
			h.at()
			h.next()
			h.at()
			equal(t, "the row", bytes.Equal(row, was), true)
		}
	}
}

// R4: what At tells is new memory each time, its spare room too: nothing of it is the
// cursor's, the vault's, that of another answer, or the other row's of the same one.
func TestR4NewMemory(t *testing.T) {
	t.Parallel()
	r := draw.Numbers(562)
	for round := range 24 {
		g := grove.Any(&r, 1+round%3)
		s, _ := grove.Settings(&r).Lay(&r, g)
		v := vaultOf(t, s)
		seen := view.Vault(v)
		c, other := cursor.New(v, g.Tree), cursor.New(v, g.Tree)
		for _, want := range g.Pairs {
			c.Next()
			other.Next()
			x, _ := c.At()
			y, _ := c.At()
			z, _ := other.At()
			turn(x.Key)
			equal(t, "the value, behind a change of the key", bytes.Equal(x.Value, want.Value), true)
			turn(x.Value)
			turn(x.Key)
			equal(t, "the key, behind a change of the value", bytes.Equal(x.Key, want.Key), true)
			turn(x.Key)
			equal(t, "another answer", told(y), told(want))
			equal(t, "that of another cursor", told(z), told(want))
			again, _ := c.At()
			equal(t, "asked again", told(again), told(want))
		}
		equal(t, "the vault", view.Vault(v) == seen, true)
		equal(t, "Next behind the last key", c.Next(), false)
	}
}

// R4: what At has told is not changed by what is done later.
func TestR4AnswersStay(t *testing.T) {
	t.Parallel()
	r := draw.Numbers(563)
	g := grove.Any(&r, 3)
	v := roomyVault(t, &r, g)
	c := cursor.New(v, g.Tree)
	var l []api.Pair
	for range g.Pairs {
		c.Next()
		x, _ := c.At()
		l = append(l, x)
	}
	for range g.Pairs {
		c.Prev()
		c.At()
	}
	equal(t, "Drop", v.Drop(g.Tree.Root), 0)
	c.Next()
	for range 30 {
		v.Make(api.Page{Kind: api.Blob, Data: bytes.Repeat([]byte{mark}, chunk)})
	}
	for k, x := range l {
		equal(t, "what At told", told(x), told(g.Pairs[k]))
	}
}

// R3: nil and an empty list are the same, as keys of Seek and as values.
func TestR3Lists(t *testing.T) {
	v := newVault(t, 20, 2)
	for _, l := range [][]api.Pair{nil, {{Key: []byte{0}}}, letters("bd"), letters("abcdefghijkl")} {
		x := built(t, v, l)
		for _, none := range [][]byte{nil, {}, roomy(nil)} {
			h := hold(t, v, x)
			h.last()
			equal(t, "Seek of no bytes", h.seek(none), len(l) > 0)
			h.tells(v)
		}
	}
	for _, none := range [][]byte{nil, {}, roomy(nil)} {
		h := hold(t, v, built(t, v, []api.Pair{{Key: []byte("a"), Value: none}}))
		h.next()
		x, is := h.at()
		equal(t, "At", fmt.Sprint(string(x.Key), len(x.Value), is), fmt.Sprint("a", 0, true))
	}
}
