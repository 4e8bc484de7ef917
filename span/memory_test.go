package span_test

import (
	"bytes"
	"slices"
	"testing"

	"coppice/api"
	"coppice/draw"
	"coppice/span"
)

// hands is what is handed in: rows and lists with spare room, and how they were
// before.
type hands struct {
	rows, before   [][]byte
	lists, ordered [][]api.Range
}

// row is such a row.
func (h *hands) row(s string) []byte {
	b := row(s)
	room := append(slices.Clone(b), "spare room"...)
	h.rows = append(h.rows, room)
	h.before = append(h.before, slices.Clone(room))
	return room[:len(b)]
}

func (h *hands) to(lo, hi string) api.Range { return api.Range{Lo: h.row(lo), Hi: h.row(hi)} }

func (h *hands) from(lo, hi string) api.Range {
	return api.Range{Lo: h.row(lo), Hi: h.row(hi), Open: true}
}

// list is such a list of ranges.
func (h *hands) list(l ...api.Range) []api.Range {
	room := append(slices.Clone(l), h.to("20", "30"), h.to("2f", "41"))
	h.lists = append(h.lists, room)
	h.ordered = append(h.ordered, slices.Clone(room))
	return room[:len(l)]
}

// unchanged tells whether all is as it was handed in.
func (h *hands) unchanged() bool {
	for i, l := range h.lists {
		for k, r := range l {
			if o := h.ordered[i][k]; !sameMemory(r.Lo, o.Lo) || !sameMemory(r.Hi, o.Hi) || r.Open != o.Open {
				return false
			}
		}
	}
	return slices.EqualFunc(h.rows, h.before, bytes.Equal)
}

func sameMemory(a, b []byte) bool {
	return len(a) == len(b) && cap(a) == cap(b) && (cap(a) == 0 || &a[:1][0] == &b[:1][0])
}

// spoil writes over all that was handed in.
func (h *hands) spoil() {
	for _, b := range h.rows {
		spoil(b)
	}
	for _, l := range h.lists {
		clear(l)
	}
}

// spoil writes over bytes and over their spare room.
func spoil(b []byte) {
	b = b[:cap(b)]
	for i := range b {
		b[i] ^= 0x55
	}
}

// ends is the rows of ranges, those in the list's spare room at the end.
func ends(l []api.Range) [][]byte {
	var all [][]byte
	for _, r := range l[:cap(l)] {
		all = append(all, r.Lo, r.Hi)
	}
	return all
}

// calls is each call that answers lists, in all the ways that it takes.
func calls() []func(h *hands) [][]byte {
	var all []func(h *hands) [][]byte
	add := func(f func(h *hands) [][]byte) { all = append(all, f) }
	for _, k := range []string{"", "61", "61 62", "23*61", "24*61", "22*61 ff ff", "30*61", "F"} {
		add(func(h *hands) [][]byte { return [][]byte{span.Next(h.row(k))} })
	}
	for _, c := range [][2]string{{"", "61"}, {"61", "61 62"}, {"61 62 63", "61 64"}, {"61", "62"}, {"24*61", "62"}, {"62", "61"}} {
		add(func(h *hands) [][]byte {
			k, _ := span.Between(h.row(c[0]), h.row(c[1]))
			return [][]byte{k}
		})
	}
	for _, p := range []string{"", "61", "61 ff", "ff", "30*61"} {
		add(func(h *hands) [][]byte { return ends(list(span.Above(h.row(p)))) })
	}
	add(func(h *hands) [][]byte { return ends(list(span.Meet(h.to("61", "64"), h.to("62", "65")))) })
	add(func(h *hands) [][]byte { return ends(list(span.Meet(h.to("62", "65"), h.from("61", "63")))) })
	add(func(h *hands) [][]byte { return ends(list(span.Meet(h.from("61", "63"), h.to("", "")))) })
	add(func(h *hands) [][]byte { return ends(list(span.Meet(h.from("61", "63"), h.from("62", "63")))) })
	add(func(h *hands) [][]byte {
		k := h.row("61 62") // one row at all places
		return ends(list(span.Meet(api.Range{Lo: k, Hi: k}, api.Range{Lo: k, Hi: k})))
	})
	for _, k := range []string{"60", "62", "64", ""} {
		add(func(h *hands) [][]byte {
			low, high := span.Split(h.to("61", "63"), h.row(k))
			return ends(list(low, high))
		})
		add(func(h *hands) [][]byte {
			low, high := span.Split(h.from("61", "63"), h.row(k))
			return ends(list(low, high))
		})
	}
	return append(all, coverCalls()...)
}

func coverCalls() []func(h *hands) [][]byte {
	return []func(h *hands) [][]byte{
		func(h *hands) [][]byte { return ends(span.Cover(h.list(h.to("61", "62")))) },
		func(h *hands) [][]byte { return ends(span.Cover(h.list(h.from("61", "62"), h.to("50", "51")))) },
		func(h *hands) [][]byte {
			return ends(span.Cover(h.list(h.to("63", "64"), h.to("61", "62"), h.to("61 00", "63"), h.to("70", "71"), h.to("24*61 00", "66"), h.from("F", ""), h.to("", ""))))
		},
		func(h *hands) [][]byte {
			k, r := h.row("61"), h.to("61", "70")
			return ends(span.Cover(h.list(api.Range{Lo: k, Hi: row("62")}, r, r, api.Range{Lo: row("60"), Hi: k})))
		},
		func(h *hands) [][]byte {
			k := h.row("61") // one row is the end of a range and the beginning of another
			return ends(span.Cover(h.list(api.Range{Lo: k, Hi: row("61 00")}, api.Range{Lo: row("50"), Hi: row("60")}, api.Range{Lo: row("62"), Hi: row("63")}, api.Range{Lo: row("60 80"), Hi: k})))
		},
	}
}

func copies(l [][]byte) [][]byte {
	var m [][]byte
	for _, b := range l {
		m = append(m, slices.Clone(b))
	}
	return m
}

func TestR4WhatIsHandedInAndOut(t *testing.T) {
	for i, call := range calls() {
		var h hands
		rows := call(&h)
		if !h.unchanged() {
			t.Fatalf("call %d has changed what was handed in", i)
		}
		want := copies(rows)
		h.spoil()
		if !slices.EqualFunc(rows, want, bytes.Equal) {
			t.Fatalf("call %d hands out what was handed in: %x, and then %x", i, want, rows)
		}
		var other hands
		rows = append(rows, call(&other)...)
		want = append(want, copies(rows[len(want):])...)
		for k, b := range rows {
			spoil(b)
			for n := range rows {
				if n != k && !bytes.Equal(rows[n], want[n]) {
					t.Fatalf("call %d: two of its lists share memory: %x", i, want)
				}
			}
			spoil(b)
		}
		if !other.unchanged() {
			t.Fatalf("call %d: an answer shares memory with what was handed in", i)
		}
	}
}

func TestR4CallsThatAnswerNoList(t *testing.T) {
	var h hands
	a, b := h.row("61 62"), h.row("61 62 63")
	r, s := h.to("24*61 00", "99*ff"), h.from("61", "62")
	span.Compare(a, b)
	span.Common(a, b)
	span.Has(r, a)
	span.Empty(r)
	span.Empty(s)
	span.Equal(r, s)
	if !h.unchanged() {
		t.Error("what was handed in is changed")
	}
}

// TestR3NoBytes hands in nil and an empty row at each place.
func TestR3NoBytes(t *testing.T) {
	no := []byte{}
	next(t, no, span.Next(nil))
	for _, k := range edges() {
		want, is := span.Between(nil, k)
		between(t, no, k, want, is)
		between(t, k, no, nil, false)
		between(t, k, nil, nil, false)
		has(t, api.Range{Lo: no, Hi: k}, k, false)
		equal(t, api.Range{Lo: no, Hi: k}, api.Range{Hi: k}, true)
		equal(t, api.Range{Lo: k, Hi: no}, api.Range{Lo: k}, true)
		meet(t, api.Range{Lo: no, Hi: no}, api.Range{Lo: k, Hi: k}, api.Range{Lo: k})
		low, high := span.Split(api.Range{Lo: k, Hi: k}, nil)
		split(t, api.Range{Lo: k, Hi: k}, no, low, high)
		cover(t, list(api.Range{Lo: no, Hi: k}), span.Cover(list(api.Range{Hi: k})))
	}
	above(t, no, span.Above(nil))
}

// TestR5SpareRoomDoesNotMatter asks the same of rows with spare room and without.
func TestR5SpareRoomDoesNotMatter(t *testing.T) {
	roomy := func(b []byte) []byte { return append(slices.Clone(b), "spare room"...)[:len(b)] }
	r := draw.Numbers(45)
	for range 500 {
		a, b := someRow(&r), someRow(&r)
		x, y := someRange(&r), someRange(&r)
		u := api.Range{Lo: roomy(x.Lo), Hi: roomy(x.Hi), Open: x.Open}
		next(t, roomy(a), span.Next(slices.Clip(a)))
		k, is := span.Between(slices.Clip(a), b)
		between(t, roomy(a), roomy(b), k, is)
		meet(t, u, y, span.Meet(x, y))
		above(t, roomy(a), span.Above(slices.Clip(a)))
		low, high := span.Split(x, a)
		split(t, u, roomy(a), low, high)
		cover(t, list(u, y), span.Cover(list(x, y)))
	}
}

// TestR1LongRows hands in rows far longer than a key.
func TestR1LongRows(t *testing.T) {
	long, full := bytes.Repeat([]byte("a"), 1<<20), bytes.Repeat([]byte{0xff}, 1<<20)
	common(t, long, append(slices.Clone(long), 'a'), 1<<20)
	next(t, long, row("23*61 62"))
	next(t, full, nil)
	between(t, long, append(slices.Clone(long), 'a'), nil, false)
	between(t, long, full, row("62"), true)
	has(t, api.Range{Lo: long, Hi: full}, long, false)
	empty(t, api.Range{Lo: long, Hi: append(slices.Clone(long), 'a')}, true)
	above(t, full, api.Range{Lo: full, Open: true})
	cover(t, list(api.Range{Lo: long, Hi: full}), list(from("23*61 62")))
}
