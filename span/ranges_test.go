package span_test

import (
	"bytes"
	"testing"

	"coppice/api"
	"coppice/draw"
	"coppice/span"
)

func TestExamplesOfRanges(t *testing.T) {
	has(t, to("61", "63"), row("62"), true)
	has(t, to("61", "63"), row("63"), false)
	has(t, from(""), nil, false)
	empty(t, to("61", "61 00"), false)
	empty(t, to("61", "61"), true)
	empty(t, to("", "00"), true)
	empty(t, from("F 00"), true)
	equal(t, to("", "62"), to("00", "62"), true)
	equal(t, to("61", "F 00"), from("61"), true)
	meet(t, to("61", "64"), from("62"), to("62", "64"))
	meet(t, to("61", "64"), to("66", "68"), to("66", "64"))
	above(t, row("61 ff"), to("61 ff", "62"))
	above(t, nil, from(""))
	above(t, row("ff"), from("ff"))
	split(t, to("61", "65"), row("63"), to("61", "63"), to("63", "65"))
	split(t, to("61", "65"), row("67"), to("61", "65"), to("67", "65"))
	split(t, from("61"), row("60"), to("61", "60"), from("61"))
}

func TestP4_4Has(t *testing.T) {
	for _, c := range []struct {
		r    api.Range
		k    string
		want bool
	}{
		{to("61", "63"), "61", true}, {to("61", "63"), "60 ff", false}, {to("61", "63"), "61 00", true}, {to("61", "63"), "62 ff ff", true},
		{to("61", "63"), "63 00", false}, {to("61", "63"), "60", false}, {to("61", "63"), "64", false}, {to("61", "63"), "", false},
		{to("61", "63"), "24*61", true}, {to("61", "63"), "25*61", false}, {from(""), "25*61", false}, {from(""), "24*61", true}, {from(""), "00", true},
		{from(""), "F", true}, {from(""), "F 00", false}, {from("F"), "F", true}, {from("F 00"), "F", false}, {from("61"), "60 ff", false}, {from("61"), "61", true},
		{to("", ""), "", false}, {to("", ""), "00", false}, {to("", "00"), "", false}, {to("", "01"), "00", true}, {to("61", "61"), "61", false}, {to("63", "61"), "62", false},
		{to("61", "61 00"), "61", true}, {to("24*61", "24*61 00"), "24*61", true}, {to("24*61 00", "23*61 62"), "24*61", false}, {to("24*61 00", "23*61 63"), "23*61 62", true},
		{to("F", "F 00"), "F", true}, {to("F", "F"), "F", false},
	} {
		has(t, c.r, row(c.k), c.want)
	}
	for _, hi := range edges() {
		r := api.Range{Lo: row("61"), Hi: hi, Open: true}
		has(t, r, row("61"), true)
		has(t, r, row("F"), true)
		has(t, r, row("60 ff"), false)
		has(t, r, nil, false)
		has(t, r, row("25*61"), false)
	}
	for _, r := range edgeRanges() {
		for _, k := range edges() {
			has(t, r, k, modelIn(r, k))
		}
	}
}

func TestP4_4Empty(t *testing.T) {
	for _, c := range []struct {
		r    api.Range
		want bool
	}{
		{from(""), false}, {from("00"), false}, {from("F"), false}, {from("F 00"), true}, {from("99*ff"), true}, {from("24*61 00"), false}, {from("99*00"), false},
		{to("", ""), true}, {to("", "00"), true}, {to("", "00 00"), false}, {to("", "01"), false}, {to("62", "61"), true}, {to("61", ""), true},
		{to("24*61", "24*61 00"), false}, {to("24*61 00", "23*61 62"), true}, {to("24*61 00", "23*61 62 00"), false}, {to("24*61 00", "24*61 01"), true}, {to("24*61 00", "99*61"), true},
		{to("F", "F 00"), false}, {to("F", "F"), true}, {to("F 00", "F 01"), true}, {to("F 00", "99*ff"), true}, {to("23*ff", "23*ff 00"), false},
		{to("61 24*ff", "62"), true}, {to("61 24*ff", "62 00"), false}, {to("61 23*ff", "62"), false},
	} {
		empty(t, c.r, c.want)
	}
	for _, hi := range edges() {
		empty(t, api.Range{Lo: row("F"), Hi: hi, Open: true}, false)
		empty(t, api.Range{Lo: row("F 00"), Hi: hi, Open: true}, true)
	}
	for _, lo := range edges() {
		for _, hi := range edges() {
			r := api.Range{Lo: lo, Hi: hi}
			empty(t, r, !modelIn(r, modelLeast(lo)))
		}
	}
}

func TestP4_4Equal(t *testing.T) {
	for _, c := range []struct {
		a, b api.Range
		want bool
	}{
		{from(""), from("00"), true}, {from("00"), from("00 00"), false}, {from("61"), api.Range{Lo: row("61"), Hi: row("62"), Open: true}, true},
		{api.Range{Lo: row("61"), Hi: row("61"), Open: true}, api.Range{Lo: row("61"), Hi: row("99*ff"), Open: true}, true},
		{from("61"), to("61", "F"), false}, {from("61"), to("61", "F 00"), true}, {from("61"), to("61", "99*ff"), true}, {from("61"), to("61", "99*ff 00"), true}, {from("F"), to("F", "F 00"), true},
		{to("61", "24*62 00"), to("61", "23*62 63"), true}, {to("61", "24*62 00"), to("61", "24*62 ff ff"), true}, {to("61", "24*62"), to("61", "24*62 00"), false},
		{to("24*61 00", "62"), to("23*61 62", "62"), true}, {to("24*61 00", "62"), to("24*61", "62"), false}, {from("24*61 00"), from("23*61 62"), true},
		{to("61", "61"), to("", ""), true}, {to("61", "61"), from("F 00"), true}, {to("64", "61"), to("24*61 00", "24*61 01"), true}, {to("", "00"), to("99*ff", ""), true},
		{to("61", "62"), to("61", "62"), true}, {to("61", "62"), to("61", "62 00"), false}, {to("61", "62"), to("61 00", "62"), false}, {to("61", "62"), to("61", "61"), false}, {from("61"), from("F 00"), false},
		{to("", "00"), from(""), false}, {api.Range{}, from(""), false}, {api.Range{}, to("61", "60"), true},
	} {
		equal(t, c.a, c.b, c.want)
	}
	l := edgeRanges()
	for i, a := range l {
		for _, b := range l[i:] {
			equal(t, a, b, sameKeys(list(a), list(b)))
		}
	}
}

// modelMeet is P4.5 sentence by sentence.
func modelMeet(a, b api.Range) api.Range {
	m := api.Range{Lo: a.Lo}
	if below(a.Lo, b.Lo) {
		m.Lo = b.Lo
	}
	if a.Open && b.Open {
		m.Open = true
		return m
	}
	var ends [][]byte
	for _, r := range []api.Range{a, b} {
		if !r.Open {
			ends = append(ends, r.Hi)
		}
	}
	m.Hi = ends[0]
	if len(ends) == 2 && below(ends[1], ends[0]) {
		m.Hi = ends[1]
	}
	return m
}

func TestP4_5Meet(t *testing.T) {
	meet(t, from("61"), from("62"), from("62"))
	meet(t, from(""), from(""), from(""))
	meet(t, api.Range{Lo: row("61"), Hi: row("70"), Open: true}, api.Range{Lo: row("60"), Hi: row("70"), Open: true}, from("61"))
	meet(t, api.Range{Lo: row("61"), Hi: row("62"), Open: true}, to("60", "65"), to("61", "65"))
	meet(t, api.Range{Lo: row("61"), Hi: row("99*ff"), Open: true}, to("62", "65"), to("62", "65"))
	meet(t, from("61"), to("", ""), to("61", ""))
	meet(t, to("61", "65"), to("62", "64"), to("62", "64"))
	meet(t, to("61", "65"), to("61", "65"), to("61", "65"))
	meet(t, to("70", "61"), to("62", "80"), to("70", "61"))
	meet(t, to("24*61 00", "99*ff"), to("24*61", "98*ff"), to("24*61 00", "98*ff"))
	meet(t, api.Range{}, from("61"), to("61", ""))
	for _, a := range edgeRanges() {
		for _, b := range edgeRanges() {
			meet(t, a, b, modelMeet(a, b))
		}
	}
}

func TestP4_6Above(t *testing.T) {
	for _, c := range []struct{ p, hi string }{
		{"00", "01"}, {"61", "62"}, {"61 00", "61 01"}, {"61 ff ff", "62"}, {"61 ff 62", "61 ff 63"}, {"fe", "ff"}, {"fe ff", "ff"}, {"ff 00", "ff 01"}, {"ff fe ff", "ff ff"},
		{"24*61", "23*61 62"}, {"23*61 ff", "22*61 62"}, {"61 23*ff", "62"}, {"25*61", "24*61 62"}, {"30*61 ff", "29*61 62"}, {"61 30*ff", "62"}, {"24*ff fe", "25*ff"},
	} {
		above(t, row(c.p), to(c.p, c.hi))
	}
	for _, p := range []string{"", "ff", "ff ff", "23*ff", "F", "F ff", "99*ff"} {
		above(t, row(p), from(p))
	}
}

func TestP4_7Split(t *testing.T) {
	for _, c := range []struct {
		r         api.Range
		k         string
		low, high api.Range
	}{
		{to("61", "65"), "61", to("61", "61"), to("61", "65")},
		{to("61", "65"), "60", to("61", "60"), to("61", "65")},
		{to("61", "65"), "65", to("61", "65"), to("65", "65")},
		{to("61", "65"), "65 00", to("61", "65"), to("65 00", "65")},
		{to("61", "65"), "64 ff", to("61", "64 ff"), to("64 ff", "65")},
		{to("61", "65"), "", to("61", ""), to("61", "65")},
		{from("61"), "65", to("61", "65"), from("65")},
		{from("61"), "", to("61", ""), from("61")},
		{from("61"), "F", to("61", "F"), from("F")},
		{from("61"), "99*ff", to("61", "99*ff"), from("99*ff")},
		{api.Range{Lo: row("61"), Hi: row("62"), Open: true}, "65", to("61", "65"), from("65")},
		{to("65", "61"), "63", to("65", "61"), to("65", "61")},
		{to("65", "61"), "60", to("65", "60"), to("65", "61")},
		{to("65", "61"), "67", to("65", "61"), to("67", "61")},
		{to("", ""), "", to("", ""), to("", "")},
		{to("24*61 00", "99*ff"), "30*61", to("24*61 00", "30*61"), to("30*61", "99*ff")},
	} {
		split(t, c.r, row(c.k), c.low, c.high)
	}
}

// This asks of every key at and beside the edges where it lies.
func TestP4_11MeetAboveSplit(t *testing.T) {
	all := probes()
	for _, p := range edges() {
		r := span.Above(p)
		for _, k := range all {
			if modelIn(r, k) != bytes.HasPrefix(k, p) {
				t.Fatalf("Above(%x) = %s, where %x is asked for", p, show(r), k)
			}
		}
	}
	r := draw.Numbers(411)
	for range 2000 {
		a, b, x := someRange(&r), someRange(&r), someRow(&r)
		m := span.Meet(a, b)
		low, high := span.Split(a, x)
		for range 100 {
			k := all[r.Below(len(all))]
			if modelIn(m, k) != (modelIn(a, k) && modelIn(b, k)) {
				t.Fatalf("Meet(%s, %s) = %s, where %x is asked for", show(a), show(b), show(m), k)
			}
			if modelIn(low, k) != (modelIn(a, k) && below(k, x)) || modelIn(high, k) != (modelIn(a, k) && !below(k, x)) {
				t.Fatalf("Split(%s, %x) = %s, where %x is asked for", show(a), x, show(low, high), k)
			}
		}
		for _, k := range borders(list(a, b, m, low, high, api.Range{Lo: x})) {
			if modelIn(m, k) != (modelIn(a, k) && modelIn(b, k)) || modelIn(low, k) != (modelIn(a, k) && below(k, x)) || modelIn(high, k) != (modelIn(a, k) && !below(k, x)) {
				t.Fatalf("Meet(%s, %s) = %s, Split(%s, %x) = %s, where %x is asked for", show(a), show(b), show(m), show(a), x, show(low, high), k)
			}
			has(t, m, k, modelIn(a, k) && modelIn(b, k))
		}
	}
}
