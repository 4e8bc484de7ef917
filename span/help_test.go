package span_test

import (
	"bytes"
	"encoding/hex"
	"fmt"
	"slices"
	"strconv"
	"strings"
	"testing"

	"coppice/api"
	"coppice/draw"
	"coppice/span"
)

// The calls have just these types.
var (
	_ func(a, b []byte) int                          = span.Compare
	_ func([]byte) []byte                            = span.Next
	_ func(a, b []byte) int                          = span.Common
	_ func(a, b []byte) ([]byte, bool)               = span.Between
	_ func(api.Range, []byte) bool                   = span.Has
	_ func(api.Range) bool                           = span.Empty
	_ func(a, b api.Range) bool                      = span.Equal
	_ func(a, b api.Range) api.Range                 = span.Meet
	_ func([]byte) api.Range                         = span.Above
	_ func(api.Range, []byte) (api.Range, api.Range) = span.Split
	_ func([]api.Range) []api.Range                  = span.Cover
)

// row is bytes as the chapter writes them; F is 24 bytes FF, and 3*61 is 61 61 61.
func row(s string) []byte {
	b := []byte{}
	for _, w := range strings.Fields(s) {
		if w == "F" {
			w = "24*ff"
		}
		n, x, is := strings.Cut(w, "*")
		if !is {
			n, x = "1", w
		}
		times, err := strconv.Atoi(n)
		one, wrong := hex.DecodeString(x)
		if err != nil || wrong != nil {
			panic("no row: " + s)
		}
		b = append(b, bytes.Repeat(one, times)...)
	}
	return b
}

// show is ranges as the chapter writes them; the Hi of an Open one too, if there is any.
func show(l ...api.Range) string {
	s := ""
	for _, r := range l {
		end := ")"
		if r.Open {
			end = ".."
		}
		s += fmt.Sprintf("[%x, %x%s ", r.Lo, r.Hi, end)
	}
	return strings.TrimSpace(s)
}

// to is the range from lo on and below hi, from the Open one; both as row reads them.
func to(lo, hi string) api.Range { return api.Range{Lo: row(lo), Hi: row(hi)} }
func from(lo string) api.Range   { return api.Range{Lo: row(lo), Open: true} }

func list(r ...api.Range) []api.Range { return r }

func joined(parts ...[]byte) []byte { return bytes.Join(parts, nil) }

// same holds two ranges against each other as structs.
func same(a, b api.Range) bool {
	return bytes.Equal(a.Lo, b.Lo) && bytes.Equal(a.Hi, b.Hi) && a.Open == b.Open
}

func sameLists(a, b []api.Range) bool { return slices.EqualFunc(a, b, same) }

func key(b []byte) bool { return len(b) >= 1 && len(b) <= 24 }

// modelCompare is what the chapter's words say, byte by byte.
func modelCompare(a, b []byte) int {
	for i := 0; ; i++ {
		switch {
		case i == len(a) && i == len(b):
			return 0
		case i == len(a):
			return -1
		case i == len(b):
			return 1
		case a[i] < b[i]:
			return -1
		case a[i] > b[i]:
			return 1
		}
	}
}

// near is all keys that are a beginning of b, and those with any byte behind one.
// If a key x is above b, and b is not its beginning, then x up to the first byte
// that differs is above b, is not above x, and stands here; if b is its
// beginning, so does b with 00 behind it.
func near(b []byte) [][]byte {
	if all, is := nearKnown[string(b)]; is {
		return all
	}
	var all [][]byte
	for n := 0; n <= len(b) && n <= 24; n++ {
		p := slices.Clone(b[:n])
		if n > 0 {
			all = append(all, p)
		}
		for y := 0; y < 256 && n < 24; y++ {
			all = append(all, joined(p, []byte{byte(y)}))
		}
	}
	nearKnown[string(b)] = all
	return all
}

// What is slow to find out is kept: the tests come to few rows, and often.
var (
	nearKnown  = map[string][][]byte{}
	leastKnown = map[string][]byte{}
)

// best is the first of the keys that fit, in an order; no bytes, if none does.
func best(all [][]byte, fits func([]byte) bool, before func(a, b []byte) bool) []byte {
	var found []byte
	for _, k := range all {
		if fits(k) && (found == nil || before(k, found)) {
			found = k
		}
	}
	return found
}

func below(a, b []byte) bool { return modelCompare(a, b) < 0 }

func modelNext(k []byte) []byte {
	return best(near(k), func(x []byte) bool { return below(k, x) }, below)
}

// modelLeast is the least key that is not below b.
func modelLeast(b []byte) []byte {
	k, is := leastKnown[string(b)]
	if !is {
		k = best(near(b), func(x []byte) bool { return !below(x, b) }, below)
		leastKnown[string(b)] = k
	}
	return k
}

// modelBetween looks at the keys near a alone: what is above a, and not above b,
// and has no fewer bytes than need be, is not above a any more without its last
// byte, so a begins with the rest.
func modelBetween(a, b []byte) ([]byte, bool) {
	k := best(near(a), func(x []byte) bool { return below(a, x) && !below(b, x) }, func(x, y []byte) bool {
		return len(x) < len(y) || len(x) == len(y) && below(x, y)
	})
	return k, k != nil
}

func modelIn(r api.Range, k []byte) bool {
	return key(k) && !below(k, r.Lo) && (r.Open || below(k, r.Hi))
}

func modelInAny(l []api.Range, k []byte) bool {
	return slices.ContainsFunc(l, func(r api.Range) bool { return modelIn(r, k) })
}

// borders is the first key, and the first one from each end on: from one of them
// up to the next, all keys lie in the same ranges.
func borders(l []api.Range) [][]byte {
	all := [][]byte{{0}}
	for _, r := range l {
		for _, end := range [][]byte{r.Lo, r.Hi} {
			if k := modelLeast(end); k != nil {
				all = append(all, k)
			}
		}
	}
	slices.SortFunc(all, modelCompare)
	return slices.CompactFunc(all, bytes.Equal)
}

// modelCover goes from border to border and asks what lies there.
func modelCover(l []api.Range) []api.Range {
	var cover []api.Range
	inside := false
	for _, k := range borders(l) {
		switch in := modelInAny(l, k); {
		case in && !inside:
			cover, inside = append(cover, api.Range{Lo: k, Open: true}), true
		case !in && inside:
			last := &cover[len(cover)-1]
			last.Hi, last.Open, inside = k, false, false
		}
	}
	return cover
}

// sameKeys is whether the same keys lie in one of a as in one of b.
func sameKeys(a, b []api.Range) bool {
	for _, k := range borders(slices.Concat(a, b)) {
		if modelInAny(a, k) != modelInAny(b, k) {
			return false
		}
	}
	return true
}

// edges are rows of bytes at all edges that the chapter names, keys and others.
func edges() [][]byte {
	all := [][]byte{}
	for _, s := range []string{"", "00", "00 00", "00 ff", "01", "60 ff ff", "61", "61 00", "61 00 00", "61 61", "61 62", "61 62 00", "61 ff", "61 ff ff", "61 ff 61", "62", "62 00", "63", "fe", "fe ff", "ff", "ff 00", "ff ff", "ff ff 00"} {
		all = append(all, row(s))
	}
	for _, n := range []int{21, 22, 23, 24, 29} {
		for _, x := range []byte{0x00, 0x61, 0xff} {
			p := bytes.Repeat([]byte{x}, n)
			all = append(all, p)
			for _, y := range []byte{0x00, 0x61, 0xff} {
				if x != y {
					all = append(all, joined(p, []byte{y}))
				}
			}
		}
	}
	all = append(all, row("22*61 ff ff"), row("22*61 ff ff 00"), row("22*61 ff ff ff"), row("22*61 fe ff"), row("22*61 62 00"),
		row("61 23*ff"), row("61 24*ff"), row("61 30*ff"), row("23*ff fe"), row("23*ff fe 00"), row("23*ff fe ff"), row("24*ff ff"), row("40*00"), row("40*ff"))
	return all
}

// edgeRanges are ranges between few of those rows, with nothing in them too.
func edgeRanges() []api.Range {
	var l []api.Range
	few := []string{"", "00", "61", "61 00", "61 ff", "62", "ff", "23*61 62", "23*61 62 00", "23*61 63", "F", "F 00"}
	for _, lo := range few {
		l = append(l, from(lo), api.Range{Lo: row(lo), Hi: row("61"), Open: true})
		for _, hi := range few {
			l = append(l, to(lo, hi))
		}
	}
	return l
}

// probes are keys at and beside all those edges.
func probes() [][]byte {
	var all [][]byte
	for _, e := range edges() {
		for n := 0; n <= len(e); n++ {
			all = append(all, e[:n], joined(e[:n], []byte{0}), joined(e[:n], []byte{0xff}), joined(e[:n], []byte{'a'}))
		}
		all = append(all, modelNext(e))
	}
	all = slices.DeleteFunc(all, func(b []byte) bool { return !key(b) })
	slices.SortFunc(all, modelCompare)
	return slices.CompactFunc(all, bytes.Equal)
}

// someRow is a row of few bytes that come often, so that rows begin alike; some
// are as long as a key may be, and longer.
func someRow(r *draw.Numbers) []byte {
	b := make([]byte, []int{0, 1, 1, 2, 3, 23, 24, 24, 25, 27}[r.Below(10)])
	first := []byte{0x00, 0x61, 0xff}[r.Below(3)]
	for i := range b {
		b[i] = first
		if i > len(b)-4 {
			b[i] = []byte{0x00, 0x01, 0x61, 0x62, 0xfe, 0xff}[r.Below(6)]
		}
	}
	return b
}

func someKey(r *draw.Numbers) []byte {
	for {
		if b := someRow(r); key(b) {
			return b
		}
	}
}

func someRange(r *draw.Numbers) api.Range {
	x := api.Range{Lo: someRow(r), Hi: someRow(r), Open: r.Below(4) == 0}
	if r.Below(4) > 0 && below(x.Hi, x.Lo) {
		x.Lo, x.Hi = x.Hi, x.Lo
	}
	return x
}

func someRanges(r *draw.Numbers, most int) []api.Range {
	var l []api.Range
	for range r.Below(most + 1) {
		l = append(l, someRange(r))
	}
	return l
}

// The calls below hold one call each against what it must answer.

func compared(t *testing.T, a, b []byte, want int) {
	t.Helper()
	if c := span.Compare(a, b); c != want {
		t.Errorf("Compare(%x, %x) = %d, want %d", a, b, c, want)
	}
}

func common(t *testing.T, a, b []byte, want int) {
	t.Helper()
	if n := span.Common(a, b); n != want {
		t.Errorf("Common(%x, %x) = %d, want %d", a, b, n, want)
	}
}

func next(t *testing.T, k, want []byte) {
	t.Helper()
	if n := span.Next(k); !bytes.Equal(n, want) {
		t.Errorf("Next(%x) = %x, want %x", k, n, want)
	}
}

func between(t *testing.T, a, b, want []byte, is bool) {
	t.Helper()
	if k, ok := span.Between(a, b); ok != is || !bytes.Equal(k, want) {
		t.Errorf("Between(%x, %x) = %x, %v; want %x, %v", a, b, k, ok, want, is)
	}
}

func has(t *testing.T, r api.Range, k []byte, want bool) {
	t.Helper()
	if span.Has(r, k) != want {
		t.Errorf("Has(%s, %x) = %v", show(r), k, !want)
	}
}

func empty(t *testing.T, r api.Range, want bool) {
	t.Helper()
	if span.Empty(r) != want {
		t.Errorf("Empty(%s) = %v", show(r), !want)
	}
}

func equal(t *testing.T, a, b api.Range, want bool) {
	t.Helper()
	if span.Equal(a, b) != want {
		t.Errorf("Equal(%s, %s) = %v", show(a), show(b), !want)
	}
	if span.Equal(b, a) != want {
		t.Errorf("Equal(%s, %s) = %v", show(b), show(a), !want)
	}
}

func meet(t *testing.T, a, b, want api.Range) {
	t.Helper()
	if m := span.Meet(a, b); !same(m, want) {
		t.Errorf("Meet(%s, %s) = %s, want %s", show(a), show(b), show(m), show(want))
	}
	if m := span.Meet(b, a); !same(m, want) {
		t.Errorf("Meet(%s, %s) = %s, want %s", show(b), show(a), show(m), show(want))
	}
}

func above(t *testing.T, p []byte, want api.Range) {
	t.Helper()
	if r := span.Above(p); !same(r, want) {
		t.Errorf("Above(%x) = %s, want %s", p, show(r), show(want))
	}
}

func split(t *testing.T, r api.Range, k []byte, low, high api.Range) {
	t.Helper()
	if a, b := span.Split(r, k); !same(a, low) || !same(b, high) {
		t.Errorf("Split(%s, %x) = %s; want %s", show(r), k, show(a, b), show(low, high))
	}
}

func cover(t *testing.T, l, want []api.Range) {
	t.Helper()
	if c := span.Cover(l); !sameLists(c, want) {
		t.Errorf("Cover(%s) = %s, want %s", show(l...), show(c...), show(want...))
	}
}
