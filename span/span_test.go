package span_test

import (
	"bytes"
	"testing"

	"coppice/draw"
	"coppice/span"
)

func TestExamplesOfKeys(t *testing.T) {
	compared(t, row("61"), row("61 00"), -1)
	compared(t, nil, nil, 0)
	common(t, row("61 62 63"), row("61 62 64"), 2)
	next(t, row("61"), row("61 00"))
	next(t, nil, row("00"))
	next(t, row("F"), nil)
	next(t, row("23*61 62"), row("23*61 63"))
	next(t, row("23*61 ff"), row("22*61 62"))
	next(t, row("30*61"), row("23*61 62"))
	between(t, row("61 62 78"), row("61 64 79"), row("61 63"), true)
	between(t, row("61 62"), row("61 62 7a"), row("61 62 00"), true)
	between(t, row("61"), row("62"), row("62"), true)
	between(t, row("61"), row("61"), nil, false)
	between(t, row("F"), row("F 00"), nil, false)
}

func TestP4_1Compare(t *testing.T) {
	rising := []string{"", "00", "00 00", "00 01", "01", "61", "61 00", "61 ff", "62", "7f", "80", "fe ff ff", "ff", "ff 00", "24*ff", "24*ff 00", "25*ff", "40*ff"}
	for i, a := range rising {
		for k, b := range rising {
			want := 0
			if i < k {
				want = -1
			} else if i > k {
				want = 1
			}
			compared(t, row(a), row(b), want)
		}
	}
	compared(t, nil, []byte{}, 0)
	compared(t, []byte{}, nil, 0)
	for _, a := range edges() {
		for _, b := range edges() {
			compared(t, a, b, modelCompare(a, b))
		}
	}
}

func TestP4_1Common(t *testing.T) {
	for _, c := range []struct {
		a, b string
		n    int
	}{
		{"", "", 0}, {"", "61", 0}, {"61", "61", 1}, {"61", "62", 0}, {"61", "61 62", 1}, {"61 62", "61 62 63", 2},
		{"61 62 63", "61 00 63", 1}, {"00 62 63", "61 62 63", 0}, {"24*61", "24*61", 24}, {"23*61 62", "24*61", 23},
		{"40*ff", "50*ff", 40}, {"40*00 01", "40*00 02", 40}, {"00", "00 00", 1},
	} {
		common(t, row(c.a), row(c.b), c.n)
		common(t, row(c.b), row(c.a), c.n)
	}
	r := draw.Numbers(41)
	for range 2000 {
		p := r.Bytes(r.Below(40))
		common(t, joined(p, []byte{1}, r.Bytes(r.Below(9))), joined(p, []byte{2}, r.Bytes(r.Below(9))), len(p))
		common(t, p, joined(p, r.Bytes(r.Below(9))), len(p))
	}
}

func TestP4_2Next(t *testing.T) {
	for _, c := range []struct{ k, next string }{
		{"", "00"}, {"00", "00 00"}, {"ff", "ff 00"}, {"ff ff", "ff ff 00"}, {"61 ff", "61 ff 00"},
		{"22*61", "22*61 00"}, {"23*61", "23*61 00"}, {"23*ff", "23*ff 00"}, {"23*00", "24*00"},
		{"24*00", "23*00 01"}, {"24*61", "23*61 62"}, {"23*61 00", "23*61 01"}, {"23*61 fe", "23*61 ff"}, {"22*61 ff ff", "21*61 62"},
		{"61 23*ff", "62"}, {"fe 23*ff", "ff"}, {"00 23*ff", "01"}, {"23*ff fe", "24*ff"}, {"22*ff fe ff", "23*ff"},
		{"25*61", "23*61 62"}, {"24*61 ff", "23*61 62"}, {"24*61 00", "23*61 62"}, {"23*61 ff 00", "22*61 62"}, {"23*61 ff ff", "22*61 62"},
		{"24*00 00", "23*00 01"}, {"61 24*ff", "62"}, {"61 99*ff", "62"}, {"61 23*ff 61", "62"},
		{"F 00", ""}, {"F ff", ""}, {"F 61 61 61", ""}, {"99*ff", ""},
	} {
		next(t, row(c.k), row(c.next))
	}
	for _, e := range edges() {
		next(t, e, modelNext(e))
	}
	r := draw.Numbers(42)
	for range 500 {
		b := someRow(&r)
		next(t, b, modelNext(b))
		b = r.Bytes(r.Below(30))
		next(t, b, modelNext(b))
	}
}

func TestP4_3Between(t *testing.T) {
	for _, c := range []struct{ a, b, want string }{
		{"", "61", "00"}, {"", "00", "00"}, {"", "00 00", "00"}, {"", "ff", "00"}, {"", "30*61", "00"},
		{"61", "63", "62"}, {"61", "61 00", "61 00"}, {"61", "61 00 00", "61 00"}, {"61", "61 ff", "61 00"}, {"61 ff ff", "62", "62"},
		{"61 62", "61 63 64", "61 63"}, {"61 62 63", "61 70", "61 63"}, {"61 62 ff", "61 63", "61 63"}, {"fe", "ff", "ff"}, {"fe ff", "ff ff", "ff"},
		{"23*61", "24*61", "23*61 00"}, {"23*61 61", "23*61 63", "23*61 62"}, {"23*61 61", "23*61 62 00", "23*61 62"}, {"23*61", "23*61 00 00", "23*61 00"},
		{"24*61", "23*61 62", "23*61 62"}, {"30*61", "62", "62"}, {"30*61", "61 61 62", "61 61 62"}, {"61 99*ff", "62 99*ff", "62"}, {"24*61 61", "23*61 63", "23*61 62"},
		{"23*ff fe", "F", "F"}, {"23*ff fe", "F 00", "F"}, {"23*ff fe 00", "F", "F"}, {"23*ff", "F", "23*ff 00"},
	} {
		between(t, row(c.a), row(c.b), row(c.want), true)
		between(t, row(c.b), row(c.a), nil, false)
		between(t, row(c.a), row(c.a), nil, false)
	}
	for _, c := range []struct{ a, b string }{
		{"", ""}, {"61", ""}, {"62", "61"}, {"61 00", "61"}, {"F", "F"}, {"F", "F 00"}, {"F", "99*ff"}, {"F 00", "F 01"},
		{"24*61", "24*61 00"}, {"24*61", "25*61"}, {"24*61 00", "24*61 01"}, {"24*61 00", "24*61 00 00"}, {"24*61 63", "24*61 62"}, {"25*61", "26*61"},
	} {
		between(t, row(c.a), row(c.b), nil, false)
	}
}

func TestP4_3BetweenFollowsTheWords(t *testing.T) {
	for _, a := range edges() {
		for _, b := range edges() {
			want, is := modelBetween(a, b)
			between(t, a, b, want, is)
		}
	}
	r := draw.Numbers(43)
	for range 1000 {
		a, b := someRow(&r), someRow(&r)
		want, is := modelBetween(a, b)
		between(t, a, b, want, is)
	}
}

func TestP4_9NothingBetween(t *testing.T) {
	all := probes()
	for _, k := range append(edges(), all...) {
		n := span.Next(k)
		if len(n) != 0 && (!key(n) || !below(k, n)) {
			t.Fatalf("Next(%x) = %x is no key above it", k, n)
		}
		for _, x := range append(near(k), all...) {
			if below(k, x) && (len(n) == 0 || below(x, n)) {
				t.Fatalf("%x lies above %x and below its Next %x", x, k, n)
			}
		}
	}
	// Of keys one behind the other, with none left out, each is the Next of the one before.
	k := row("22*61 ff fe")
	for _, want := range []string{"22*61 ff ff", "21*61 62", "21*61 62 00", "21*61 62 00 00", "21*61 62 00 01", "21*61 62 00 02"} {
		k = span.Next(k)
		if !bytes.Equal(k, row(want)) {
			t.Errorf("%x, where %s was to come", k, want)
		}
	}
}

func TestP4_10Short(t *testing.T) {
	all := probes()
	r := draw.Numbers(410)
	tell := func(a, b []byte) {
		k, is := span.Between(a, b)
		if is && (!key(k) || !below(a, k) || below(b, k)) || !is && len(k) != 0 {
			t.Fatalf("Between(%x, %x) = %x, %v", a, b, k, is)
		}
		if below(a, b) && key(b) && (!is || len(k) > span.Common(a, b)+1) {
			t.Fatalf("Between(%x, %x) = %x, %v, where %d bytes are common", a, b, k, is, span.Common(a, b))
		}
		for range 20 {
			x := all[r.Below(len(all))]
			if below(a, x) && !below(b, x) && (!is || len(x) < len(k) || len(x) == len(k) && below(x, k)) {
				t.Fatalf("Between(%x, %x) = %x, %v, and not %x", a, b, k, is, x)
			}
		}
	}
	for _, a := range edges() {
		for _, b := range append(edges(), all...) {
			tell(a, b)
			tell(b, a)
		}
	}
	for range 5000 {
		tell(someRow(&r), someKey(&r))
	}
}
