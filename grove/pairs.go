package grove

import (
	"bytes"
	"slices"

	"coppice/api"
	"coppice/draw"
)

// Pairs is n pairs of keys that often begin alike; values are long here and there,
// so that all of them together take no more than so many bytes.
func Pairs(r *draw.Numbers, n, bytesMost int) []api.Pair {
	known := map[string]int{}
	var l []api.Pair
	for len(l) < n {
		k := Key(r)
		if known[string(k)]++; known[string(k)] > 1 {
			continue
		}
		x := api.Pair{Key: k, Value: r.Bytes(r.Below(4))}
		if r.Below(3) == 0 {
			sizes := Sizes()
			if size := sizes[r.Below(len(sizes))]; size <= bytesMost {
				x.Value = r.Bytes(size)
				bytesMost -= size
			}
		}
		l = append(l, x)
	}
	slices.SortFunc(l, func(a, b api.Pair) int { return bytes.Compare(a.Key, b.Key) })
	return l
}

// Sizes is lengths of values on both sides of the bounds that matter.
func Sizes() []int {
	return []int{0, 1, api.Inline - 1, api.Inline, api.Inline + 1, api.Chunk - 1, api.Chunk, api.Chunk + 1,
		2*api.Chunk - 1, 2 * api.Chunk, 2*api.Chunk + 1, api.MaxValue - 1, api.MaxValue}
}

// Key is a key of few bytes that come often; some are as long as a key may be.
func Key(r *draw.Numbers) []byte {
	b := make([]byte, []int{1, 2, 3, 4, 5, 6, 7, api.MaxKey - 1, api.MaxKey, api.MaxKey}[r.Below(10)])
	for k := range b {
		b[k] = []byte{0, 1, 'a', 'b', 'c', 'm', 0xfe, 0xff}[r.Below(8)]
		if k < len(b)-6 {
			b[k] = 'a'
		}
	}
	return b
}

// Around is rows at and beside a row.
func Around(row []byte) [][]byte {
	l := [][]byte{row, append(bytes.Clone(row), 0), append(bytes.Clone(row), 0xff), append(bytes.Clone(row), make([]byte, api.MaxKey)...)}
	if n := len(row); n > 0 {
		more, less := bytes.Clone(row), bytes.Clone(row)
		more[n-1]++
		less[n-1]--
		l = append(l, row[:n-1], row[:n/2], more, less, append(less, 0xff))
	}
	return l
}

// Rows is rows at and beside each key and each separator of a tree, or of some of them,
// and rows that are no keys.
func (g *Grown) Rows(r *draw.Numbers, most int) [][]byte {
	l := [][]byte{nil, {}, {0}, {0xff}, make([]byte, api.MaxKey), make([]byte, api.MaxKey+1), make([]byte, 1000)}
	for _, n := range []int{api.MaxKey - 1, api.MaxKey, api.MaxKey + 1, 5000} {
		l = append(l, bytes.Repeat([]byte{0xff}, n), bytes.Repeat([]byte{'a'}, n))
	}
	var seeds [][]byte
	for _, x := range g.Pairs {
		seeds = append(seeds, x.Key)
	}
	for _, level := range g.Levels {
		for _, s := range level {
			seeds = append(seeds, s.Lo)
		}
	}
	for len(seeds) > most {
		at := r.Below(len(seeds))
		seeds[at] = seeds[len(seeds)-1]
		seeds = seeds[:len(seeds)-1]
	}
	for _, s := range seeds {
		l = append(l, Around(s)...)
	}
	return l
}

// SomeKey is a key of a tree, or one that lies at or beside its keys and separators.
func (g *Grown) SomeKey(r *draw.Numbers) []byte {
	if n := len(g.Pairs); n > 0 && r.Below(2) == 0 {
		near := r.Below(min(n, 24)) // the edges are full here and there
		return g.Pairs[[]int{0, n - 1, near, n - 1 - near, r.Below(n)}[r.Below(5)]].Key
	}
	rows := g.Rows(r, 12)
	for {
		if row := rows[r.Below(len(rows))]; len(row) > 0 && len(row) <= api.MaxKey {
			return row
		}
	}
}

// Shortest is the shortest key above a and not above b, of those of one length the
// least; none, if there is no such key.
func Shortest(a, b []byte) []byte {
	for n := 1; n <= api.MaxKey; n++ {
		k := append(bytes.Clone(a), make([]byte, api.MaxKey)...)[:n]
		if n <= len(a) { // the least row of n bytes above a is what comes next behind its beginning
			at := n - 1
			for at > 0 && k[at] == 0xff {
				at--
			}
			if k[at] == 0xff {
				continue
			}
			k[at]++
			clear(k[at+1:])
		}
		if bytes.Compare(k, b) <= 0 {
			return k
		}
	}
	return nil
}

// Lies is the number of the item of an index in whose range a key lies.
func Lies(p api.Page, key []byte) int {
	at := 0
	for k, i := range p.Items {
		if k > 0 && bytes.Compare(i.Key, key) <= 0 {
			at = k
		}
	}
	return at
}
