package grove

import (
	"bytes"
	"slices"

	"coppice/api"
)

// What a tree must tell, from its pairs alone.

// at is how many keys are below a row.
func (g *Grown) at(row []byte) int {
	n, _ := slices.BinarySearchFunc(g.Pairs, row, func(x api.Pair, row []byte) int { return bytes.Compare(x.Key, row) })
	return n
}

// Get is the value of a key, and whether it is there.
func (g *Grown) Get(key []byte) ([]byte, bool) {
	if at := g.at(key); at < len(g.Pairs) && bytes.Equal(g.Pairs[at].Key, key) {
		return g.Pairs[at].Value, true
	}
	return nil, false
}

// List is the pairs of a range.
func (g *Grown) List(r api.Range) []api.Pair {
	var l []api.Pair
	for _, x := range g.Pairs[g.at(r.Lo):] {
		if !r.Open && bytes.Compare(x.Key, r.Hi) >= 0 {
			break
		}
		l = append(l, x)
	}
	return l
}

// Ceil is the pair with the least key that is not below a row, or none.
func (g *Grown) Ceil(row []byte) []api.Pair {
	at := g.at(row)
	return g.Pairs[at:min(at+1, len(g.Pairs))]
}

// Floor is the pair with the greatest key that is not above a row, or none.
func (g *Grown) Floor(row []byte) []api.Pair {
	at := g.at(append(bytes.Clone(row), 0)) // so many keys are not above the row
	return g.Pairs[max(at-1, 0):at]
}

// Path is the spot of each level in whose range a row lies, from the root on.
func (g *Grown) Path(row []byte) []int {
	var l []int
	for _, level := range slices.Backward(g.Levels) {
		at, is := slices.BinarySearchFunc(level, row, func(s Spot, row []byte) int { return bytes.Compare(s.Lo, row) })
		if !is {
			at--
		}
		l = append(l, level[at].No)
	}
	return l
}
