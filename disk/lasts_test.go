package disk_test

import (
	"bytes"
	"runtime"
	"slices"
	"testing"

	"coppice/api"
	"coppice/disk"
	"coppice/draw"
)

// scripts hold disks against the model, behind each step all that can be seen of
// them.
func TestP6_9Scripts(t *testing.T) {
	for seed := range draw.Numbers(120) {
		r := seed * 1000003
		blocks := 8 + r.Below(5)
		image := r.Bytes(blocks * api.BlockSize)
		clear(image[api.BlockSize : 4*api.BlockSize])
		d, e := disk.From(image)
		errno(t, "From", e, api.OK)
		m := newModel(image)
		for range 150 {
			same(t, step(t, &r, d, m), look(d), m.look())
		}
	}
}

// step is one call, of the disk and of the model.
func step(t *testing.T, r *draw.Numbers, d *disk.Disk, m *model) string {
	t.Helper()
	switch r.Below(20) {
	default:
		i, b := someBlock(r, m.blocks()), someBytes(r)
		errno(t, "Write", d.Write(i, b), m.write(i, b))
		return "behind Write"
	case 0, 1, 2:
		errno(t, "Sync", d.Sync(), m.sync())
		return "behind Sync"
	case 3, 4:
		n := r.Below(12) - 3
		d.Arm(n)
		m.arm(n)
		return "behind Arm"
	case 5:
		d.Off()
		m.off()
		return "behind Off"
	case 6, 7, 8:
		keep := someKeep(r, len(m.at))
		d.On(keep)
		m.turnOn(keep)
		return "behind On"
	case 9, 10, 11:
		i, b := someBlock(r, m.blocks()), someBytes(r)
		if got, want := d.Lay(i, b), m.lay(i, b); got != want {
			t.Fatalf("Lay(%d) of %d bytes = %t", i, len(b), got)
		}
		return "behind Lay"
	}
}

// What lasts is turned by Sync, On and Lay alone.
func TestP6_9WhatTurnsIt(t *testing.T) {
	d := made(t, 8)
	writes(t, d, 1, 1)
	syncs(t, d)
	image := d.Image()
	for _, call := range []func(){
		func() { d.Write(1, full(2)) }, func() { d.Read(1) }, func() { d.Arm(3) }, func() { d.On([]bool{true}) },
		func() { d.Write(2, full(2)) }, func() { d.Lay(1, full(3)) }, func() { d.Arm(0) }, func() { d.Write(1, full(4)) },
		func() { d.Write(1, full(5)) }, func() { d.Sync() }, func() { d.Off() }, func() { d.Read(1) }, func() { d.Unsynced() },
	} {
		call()
		if !bytes.Equal(d.Image(), image) {
			t.Fatalf("what lasts was turned")
		}
	}
	on(t, d, false)
}

// Behind an On of a disk that had no power the disk shows what lasts.
func TestP6_9ShowsWhatLasts(t *testing.T) {
	d := made(t, 8)
	for i := range 8 {
		writes(t, d, i, byte(i+1))
	}
	d.Off()
	d.On([]bool{true, false, true, false, false, true})
	lasts(t, d, 1, 0, 3, 0, 0, 6)
	for i, x := range []byte{1, 0, 3, 0, 0, 6, 0, 0} {
		reads(t, d, i, x)
	}
}

// A disk From(Image()) shows what lasts here, and has nothing else of this one.
func TestP6_9FromImage(t *testing.T) {
	d := made(t, 8)
	writes(t, d, 1, 1)
	writes(t, d, 6, 2)
	syncs(t, d)
	writes(t, d, 1, 3)
	writes(t, d, 2, 4)
	d.Arm(2)
	f, e := disk.From(d.Image())
	errno(t, "From", e, api.OK)
	fresh(t, f, 8, slices.Concat(full(0), full(1), full(0), full(0), full(0), full(0), full(2), full(0)))
	writes(t, f, 1, 9)
	syncs(t, f)
	reads(t, d, 1, 3)
	lasts(t, d, 0, 1, 0, 0, 0, 0, 2)
	alarm(t, d, 2)
}

// Behind a sync that was done nothing is lost, whatever On is told.
func TestP6_9NothingLostBehindSync(t *testing.T) {
	r := draw.Numbers(69)
	for n := range 60 {
		d := made(t, 8)
		for range n % 7 {
			d.Write(r.Below(8), r.Bytes(api.BlockSize))
		}
		syncs(t, d)
		before := look(d)
		keep := someKeep(&r, n%7)
		if n%2 == 0 {
			d.Off()
		} else {
			d.Arm(0)
			d.Write(1, full(1))
		}
		d.On(keep)
		same(t, "behind a sync and an On", look(d), before)
	}
}

// The power may fail ahead of each act: what lasts then is what lasted at the last
// sync that was done, with any of the writes since then, in their order.
func TestP6_9PowerFailsAnywhere(t *testing.T) {
	for fails := range 9 {
		for told := range 1 << 4 {
			d := made(t, 8)
			d.Arm(fails)
			var synced, waiting [][2]byte // blocks and their bytes
			for n := range byte(9) {
				if n%4 == 3 {
					if d.Sync() == api.OK {
						synced, waiting = append(synced, waiting...), nil
					}
				} else if i := n * n % 3; d.Write(int(i), full(n+1)) == api.OK {
					waiting = append(waiting, [2]byte{i, n + 1})
				}
			}
			on(t, d, false)
			want := make([]byte, 8)
			if told%3 == 0 && d.Lay(1, full(99)) {
				synced = append(synced, [2]byte{1, 99})
			}
			for _, w := range synced {
				want[w[0]] = w[1]
			}
			var keep []bool
			for n := range 4 {
				keep = append(keep, told>>n&1 == 1)
			}
			for n, w := range waiting {
				if keep[n] {
					want[w[0]] = w[1]
				}
			}
			d.On(keep)
			lasts(t, d, want...)
			for i, x := range want {
				reads(t, d, i, x)
			}
		}
	}
}

// taken is how many bytes of memory a call takes.
func taken(call func()) int {
	var before, after runtime.MemStats
	runtime.ReadMemStats(&before)
	call()
	runtime.ReadMemStats(&after)
	return int(after.TotalAlloc - before.TotalAlloc)
}

// A great disk with little on it is small.
func TestGreatDisksAreSmall(t *testing.T) {
	var d *disk.Disk
	n := taken(func() {
		d = made(t, api.MaxBlocks)
		for i := range 100 {
			writes(t, d, i*600, 0)
			writes(t, d, i*601, 1)
			syncs(t, d)
		}
	})
	if n > 4<<20 {
		t.Errorf("New: %d bytes were taken", n)
	}
	reads(t, d, 601, 1)
	reads(t, d, 600, 0)
	image := make([]byte, api.MaxBlocks*api.BlockSize)
	image[5000] = 1
	if n := taken(func() { disk.From(image) }); n > 4<<20 {
		t.Errorf("From: %d bytes were taken", n)
	}
}
