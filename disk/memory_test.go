package disk_test

import (
	"bytes"
	"slices"
	"testing"

	"coppice/api"
	"coppice/disk"
)

// spare is a list with room behind it, all of it of bytes x.
func spare(b []byte, x byte) []byte {
	room := append(slices.Clone(b), bytes.Repeat([]byte{x}, 64)...)
	return room[:len(b)]
}

// spoil turns each byte of a list, its spare room too.
func spoil(b []byte) {
	b = b[:cap(b)]
	for i := range b {
		b[i] ^= 0xA5
	}
}

// untouched: are the list and its spare room as they were?
func untouched(t *testing.T, what string, b, want []byte, x byte) {
	t.Helper()
	if !bytes.Equal(b, want) || !bytes.Equal(b[:len(want)+64][len(want):], bytes.Repeat([]byte{x}, 64)) {
		t.Fatalf("%s changed what was handed in", what)
	}
}

func TestR4Arguments(t *testing.T) {
	image := spare(slices.Concat(full(1), full(2), make([]byte, 6*api.BlockSize)), 7)
	want := slices.Clone(image)
	d, e := disk.From(image)
	errno(t, "From", e, api.OK)
	untouched(t, "From", image, want, 7)
	spoil(image)
	lasts(t, d, 1, 2)
	reads(t, d, 0, 1)

	b := spare(full(3), 7)
	errno(t, "Write", d.Write(0, b), api.OK)
	untouched(t, "Write", b, full(3), 7)
	spoil(b)
	reads(t, d, 0, 3)
	syncs(t, d)
	spoil(b)
	reads(t, d, 0, 3)
	lasts(t, d, 3, 2)

	d.Off()
	b = spare(full(4), 7)
	if !d.Lay(1, b) {
		t.Fatalf("Lay")
	}
	untouched(t, "Lay", b, full(4), 7)
	spoil(b)
	lasts(t, d, 3, 4)
	if d.Lay(8, b) || d.Write(0, b) != api.ErrDown {
		t.Fatalf("what is to be refused was not")
	}
	spoil(b)
	untouched(t, "a call that was refused", b, full(4), 7)
}

// On looks at keep's elements alone, not at what lies behind them.
func TestR4Keep(t *testing.T) {
	d := made(t, 8)
	for i := range 4 {
		writes(t, d, i, 1)
	}
	d.Off()
	room := []bool{true, false, true, true}
	keep := room[:2]
	d.On(keep)
	lasts(t, d, 1)
	if !slices.Equal(room, []bool{true, false, true, true}) {
		t.Fatalf("On changed what was handed in")
	}
	keep[0], keep[1] = false, true
	lasts(t, d, 1)
}

func TestR4Answers(t *testing.T) {
	d := made(t, 8)
	writes(t, d, 0, 1)
	syncs(t, d)
	writes(t, d, 1, 2)
	writes(t, d, 1, 3)
	for range 2 {
		for i, x := range []byte{1, 3, 0} {
			b, e := d.Read(i)
			errno(t, "Read", e, api.OK)
			spoil(b)
			reads(t, d, i, x)
		}
		image := d.Image()
		spoil(image)
		lasts(t, d, 1)
		l := d.Unsynced()
		l = l[:cap(l)]
		for i := range l {
			l[i] = 77
		}
		waits(t, d, 1, 1)
	}
	d.Off()
	spoil(d.Image())
	lasts(t, d, 1)
	d.On([]bool{true, true})
	lasts(t, d, 1, 3)
}

// Two disks have nothing in common.
func TestR4TwoDisks(t *testing.T) {
	image := slices.Concat(full(1), make([]byte, 7*api.BlockSize))
	a, _ := disk.From(image)
	b, _ := disk.From(image)
	writes(t, a, 0, 2)
	a.Arm(0)
	a.Sync()
	reads(t, b, 0, 1)
	waits(t, b)
	acts(t, b, 0, 0)
	on(t, b, true)
	alarm(t, b, -1)
}

// nil and an empty list mean the same.
func TestR3(t *testing.T) {
	d := made(t, 8)
	if d.Write(0, nil) != d.Write(0, []byte{}) {
		t.Fatalf("Write")
	}
	if len(d.Unsynced()) != 0 {
		t.Fatalf("Unsynced")
	}
	a, e := disk.From(nil)
	b, f := disk.From([]byte{})
	if a != nil || b != nil || e != f {
		t.Fatalf("From")
	}
	for _, keep := range [][]bool{nil, {}} {
		writes(t, d, 1, 1)
		d.Off()
		if d.Lay(1, nil) || d.Lay(1, []byte{}) {
			t.Fatalf("Lay")
		}
		d.On(keep)
		lasts(t, d)
	}
}
