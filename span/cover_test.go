package span_test

import (
	"slices"
	"testing"

	"coppice/api"
	"coppice/draw"
	"coppice/span"
)

func TestExamplesOfCover(t *testing.T) {
	cover(t, list(to("61", "63"), to("63", "65"), to("62", "64"), to("70", "70")), list(to("61", "65")))
	cover(t, list(to("61", "62"), to("62 00", "63")), list(to("61", "62"), to("62 00", "63")))
	cover(t, list(to("", "61"), to("61", "F 00")), list(from("00")))
}

func TestP4_8Cover(t *testing.T) {
	for _, c := range []struct{ l, want []api.Range }{
		{nil, nil},
		{list(), nil},
		{list(to("61", "61"), to("62", "61"), to("", "00"), from("F 00"), to("24*61 00", "23*61 62"), api.Range{}), nil},
		{list(from("")), list(from("00"))},
		{list(api.Range{Lo: row("61"), Hi: row("62"), Open: true}), list(from("61"))},
		{list(to("61", "62")), list(to("61", "62"))},
		{list(to("61", "62"), to("61", "62")), list(to("61", "62"))},
		{list(to("61", "62"), to("62", "63")), list(to("61", "63"))},
		{list(to("62", "63"), to("61", "62")), list(to("61", "63"))},
		{list(to("61", "65"), to("62", "63")), list(to("61", "65"))},
		{list(to("62", "63"), to("61", "65"), to("64", "66")), list(to("61", "66"))},
		{list(to("61", "62"), to("61", "65"), to("61", "63")), list(to("61", "65"))},
		{list(to("63", "64"), to("61", "62")), list(to("61", "62"), to("63", "64"))},
		{list(to("61", "61 00"), to("61 00", "61 00 00")), list(to("61", "61 00 00"))},
		{list(to("61", "61 00"), to("61 00 00", "62")), list(to("61", "61 00"), to("61 00 00", "62"))},
		{list(to("23*61 62", "23*61 62 00"), to("23*61 63", "62")), list(to("23*61 62", "62"))},
		{list(to("23*61 62", "23*61 62 00"), to("23*61 64", "62")), list(to("23*61 62", "23*61 63"), to("23*61 64", "62"))},
		{list(to("61", "24*62 00"), to("24*62 ff", "63")), list(to("61", "63"))},
		{list(to("61", "24*62"), to("24*62 ff", "63")), list(to("61", "24*62"), to("23*62 63", "63"))},
		{list(to("61 23*ff", "62"), to("60", "61 23*ff")), list(to("60", "62"))},
		{list(to("61 24*ff", "63")), list(to("62", "63"))},
		{list(to("61", "F")), list(to("61", "F"))},
		{list(to("61", "F"), to("F", "F 00")), list(from("61"))},
		{list(to("61", "99*ff")), list(from("61"))},
		{list(to("F", "99*ff")), list(from("F"))},
		{list(from("F"), to("61", "62")), list(to("61", "62"), from("F"))},
		{list(from("62"), to("61", "62"), to("64", "66"), from("70")), list(from("61"))},
		{list(from("62"), to("61", "61 ff")), list(to("61", "61 ff"), from("62"))},
		{list(to("", "00 00"), to("00 00", "00 01")), list(to("00", "00 01"))},
		{list(to("", "99*00")), list(to("00", "23*00 01"))},
		{list(to("99*00", "01"), to("", "24*00")), list(to("00", "24*00"), to("23*00 01", "01"))},
		{list(to("30*61", "62"), to("61", "30*61")), list(to("61", "62"))},
	} {
		cover(t, c.l, c.want)
		backwards := slices.Clone(c.l)
		slices.Reverse(backwards)
		cover(t, backwards, c.want)
	}
}

// turns calls back with each order of the list.
func turns(l []api.Range, from int, tell func([]api.Range)) {
	if from == len(l) {
		tell(l)
	}
	for i := from; i < len(l); i++ {
		l[from], l[i] = l[i], l[from]
		turns(l, from+1, tell)
		l[from], l[i] = l[i], l[from]
	}
}

func TestP4_8AnyOrder(t *testing.T) {
	l := list(to("61", "63"), to("62", "64"), to("64", "65"), to("66", "67"), to("66", "66 80"), from("F"))
	turns(l, 0, func(l []api.Range) { cover(t, l, list(to("61", "65"), to("66", "67"), from("F"))) })
}

func TestP4_8CoverFollowsTheWords(t *testing.T) {
	for _, a := range edgeRanges() {
		cover(t, list(a), modelCover(list(a)))
	}
	l := edgeRanges()
	r := draw.Numbers(48)
	for range 3000 {
		a, b := l[r.Below(len(l))], l[r.Below(len(l))]
		cover(t, list(a, b), modelCover(list(a, b)))
		m := someRanges(&r, 6)
		cover(t, m, modelCover(m))
	}
}

func TestP4_8ManyRanges(t *testing.T) {
	var l, want []api.Range
	for i := range 256 {
		for k := range 256 {
			x, y := byte(i), byte(k)
			l = append(l, api.Range{Lo: []byte{x, y}, Hi: []byte{x, y, 0x80}}, api.Range{Lo: []byte{x, y, 0x80}, Hi: []byte{x, y, 0xff}})
			want = append(want, api.Range{Lo: []byte{x, y}, Hi: []byte{x, y, 0xff}})
		}
	}
	r := draw.Numbers(480)
	for i := range l {
		k := i + r.Below(len(l)-i)
		l[i], l[k] = l[k], l[i]
	}
	if !sameLists(span.Cover(l), want) {
		t.Error("Cover of many ranges")
	}
	if c := span.Cover(append(l, from(""))); !sameLists(c, list(from("00"))) {
		t.Errorf("Cover of many ranges and of all keys is of %d ranges", len(c))
	}
}

func TestP4_11Cover(t *testing.T) {
	all := probes()
	r := draw.Numbers(4110)
	for range 1500 {
		l := someRanges(&r, 5)
		c := span.Cover(l)
		tell := func(k []byte) {
			times := 0
			for _, x := range c {
				if modelIn(x, k) {
					times++
				}
			}
			if times > 1 || (times == 1) != modelInAny(l, k) {
				t.Fatalf("Cover(%s) = %s, where %x is asked for", show(l...), show(c...), k)
			}
		}
		for _, k := range borders(slices.Concat(l, c)) {
			tell(k)
		}
		for range 100 {
			tell(all[r.Below(len(all))])
		}
	}
}

// otherwise is the same keys in other ranges and in another order.
func otherwise(r *draw.Numbers, l []api.Range) []api.Range {
	var m []api.Range
	for _, x := range l {
		k := someRow(r)
		switch r.Below(4) {
		case 0: // in two parts
			m = append(m, modelMeet(x, api.Range{Hi: k}), modelMeet(x, api.Range{Lo: k, Open: true}))
		case 1: // with a part of it once more
			m = append(m, x, modelMeet(x, someRange(r)))
		case 2: // with a beginning that is no key, if there is one
			m = append(m, api.Range{Lo: noKey(x.Lo), Hi: x.Hi, Open: x.Open})
		case 3: // with an end that is no key, if there is one; or without any
			y := api.Range{Lo: x.Lo, Hi: noKey(x.Hi)}
			if x.Open {
				y.Hi = row("F 61")
			}
			m = append(m, y)
		}
		m = append(m, api.Range{Lo: k, Hi: k})
	}
	for i := range m {
		k := i + r.Below(len(m)-i)
		m[i], m[k] = m[k], m[i]
	}
	return m
}

// noKey is a row that stands among the keys where b stands, and is no key, if
// there is one.
func noKey(b []byte) []byte {
	if len(b) == 1 && b[0] == 0 {
		return nil
	}
	if len(b) == 24 && b[23] > 0 {
		c := slices.Clone(b)
		c[23]--
		return append(c, 0x77)
	}
	return b
}

func TestP4_12OneForm(t *testing.T) {
	r := draw.Numbers(412)
	for range 2000 {
		l := someRanges(&r, 5)
		m := otherwise(&r, l)
		if !sameKeys(l, m) {
			t.Fatalf("not the same keys: %s and %s", show(l...), show(m...))
		}
		c := span.Cover(l)
		cover(t, m, c)
		cover(t, c, c)
		n := someRanges(&r, 2)
		if d := span.Cover(n); sameLists(c, d) != sameKeys(l, n) {
			t.Errorf("Cover(%s) = %s, Cover(%s) = %s", show(l...), show(c...), show(n...), show(d...))
		}
	}
}

func TestP4_12EqualAndEmpty(t *testing.T) {
	l := edgeRanges()
	r := draw.Numbers(4120)
	for range 50 {
		l = append(l, someRange(&r))
	}
	for _, a := range l {
		one := span.Cover(list(a))
		empty(t, a, len(one) == 0)
		for _, b := range l {
			equal(t, a, b, sameLists(one, span.Cover(list(b))))
		}
	}
}
