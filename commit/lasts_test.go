package commit_test

import (
	"bytes"
	"fmt"
	"testing"

	"coppice/api"
	"coppice/commit"
	"coppice/disk"
	"coppice/draw"
	"coppice/grove"
)

// P23.6: several Writes, one behind the other: what was written is opened, whole, and so is
// what was written ahead of it, where the newer one is gone.
func TestP23_6Writes(t *testing.T) {
	t.Parallel()
	r, all := draw.Numbers(2361), met{}
	for round := range 40 {
		d, w := newWood(t, &r, someConfig(&r, []int{12, 30, 60, 250}[round%4]))
		last := state{w.s, grove.StoreFrom(w.v), w.family.copy()}
		for range 12 {
			w.steps(1 + r.Below(12))
			x := w.write(t, d)
			x.opens(t, d)
			x.isIn(t, w.v)
			older := lying{blocks: without(blocksOf(d), x.s.Gen%2)}.disk(t)
			last.opens(t, older)
			last = x
		}
		for what, n := range w.met {
			all[what] += n
		}
	}
	all.wants(t, 30, "put 0", "cut 0", "clone 0", "drop 0", "plant 0", "load 0", "trim 0", "apply 0", "merge 0", "undo 0", "put 12")
	all.wants(t, 5, "load 12", "clone 13")
}

// failed lets the power fail within a Write of a wood behind so many acts, on a disk like
// this one; what comes back is opened: what was written, just if its superblock lasts.
func failed(t *testing.T, l lying, w *wood, last, x state, n int, keep []bool) string {
	t.Helper()
	acts := modelWrite(t, x.s, grove.StoreFrom(w.v))
	d, v := l.disk(t), vaultOf(t, grove.StoreFrom(w.v))
	d.Arm(n)
	equal(t, "Write", write(t, d, x.s, v), errDown)
	d.On(keep)
	what, lasts := "what lasted", last
	if n == len(acts)-1 && len(keep) > 0 && keep[0] {
		what, lasts = "what was being written", x
	}
	lasts.opens(t, d)
	for _, at := range last.blocks() {
		b, _ := d.Read(at)
		equal(t, fmt.Sprintf("block %d of what lasted is as it was", at), bytes.Equal(b, l.blocks[at]), true)
	}
	return what
}

// P23.6: the power fails at each act of a Write in turn, and any of what was not synced
// lasts: in all ways, where they are few.
func TestP23_6EachAct(t *testing.T) {
	t.Parallel()
	r, met := draw.Numbers(2362), met{}
	for round := range 60 {
		d, w := newWood(t, &r, someConfig(&r, []int{5, 8, 12, 30, 30, 241}[round%6]))
		last := state{w.s, grove.StoreFrom(w.v), w.family.copy()}
		for range r.Below(4) {
			w.steps(1 + r.Below(8))
			last = w.write(t, d)
		}
		w.steps(1 + r.Below(8))
		l, x := lying{blocks: blocksOf(d)}, w.lasting()
		acts := modelWrite(t, x.s, grove.StoreFrom(w.v))
		for n := range acts {
			for _, keep := range keeps(&r, pendingWrites(acts[:n]), 16) {
				met[failed(t, l, w, last, x, n, keep)]++
			}
		}
		equal(t, "Write", commit.Write(d, x.s, w.v), 0)
		x.opens(t, d)
	}
	met.wants(t, 50, "what lasted", "what was being written")
}

// P23.6: scripts of steps and Writes in which the power fails anywhere, and it goes on from
// what is opened then.
func TestP23_6Scripts(t *testing.T) {
	t.Parallel()
	r, met := draw.Numbers(2363), met{}
	for round := range 60 {
		d, w := newWood(t, &r, someConfig(&r, []int{12, 30, 60, 245}[round%4]))
		last := state{w.s, grove.StoreFrom(w.v), w.family.copy()}
		for range 20 {
			w.steps(r.Below(9))
			w.stands(t)
			what := ""
			last, what = w.goOn(t, d, last)
			met[what]++
			last.opens(t, d)
			met[fmt.Sprint("generation ", min(last.s.Gen, 3))]++
		}
	}
	met.wants(t, 30, "written", "off", "failed", "failed, and lasts", "generation 0", "generation 1", "generation 2", "generation 3")
}

// goOn writes what a wood has come to, or tries to, or loses it; what lasts then.
func (w *wood) goOn(t *testing.T, d *disk.Disk, last state) (state, string) {
	t.Helper()
	x := w.lasting()
	acts := modelWrite(t, x.s, grove.StoreFrom(w.v))
	what := "off"
	switch n := len(acts) - 1 - w.r.Below(len(acts))*w.r.Below(2); w.r.Below(4) {
	case 0:
		return w.write(t, d), "written"
	case 1:
		d.Off()
		d.On(nil)
	default:
		d.Arm(n)
		equal(t, "Write", write(t, d, x.s, w.v), errDown)
		keep := bits(40, int(w.r.Next()>>1))
		d.On(keep)
		what = "failed"
		if n == len(acts)-1 && keep[0] {
			what, last = "failed, and lasts", x
		}
	}
	w.reopened(last, last.opens(t, d))
	return last, what
}

// P23.6: the last generations that there are, and the last id.
func TestP23_6LastGenerations(t *testing.T) {
	t.Parallel()
	r := draw.Numbers(2364)
	d, w := newWood(t, &r, api.Config{Blocks: 40, Clones: 8, Refs: 9})
	w.s.Gen, w.next = maxGen-4, maxId-200
	for gen := maxGen - 3; gen <= maxGen; gen++ {
		w.steps(5)
		if gen == maxGen {
			w.next = maxId + 1
		}
		x := w.write(t, d)
		equal(t, "Gen", x.s.Gen, gen)
		x.opens(t, d)
	}
	refused(t, d, w.coming(), grove.StoreFrom(w.v), errMany)
}

// P23.6: a great forest: trees of several levels, values of many pages, several blocks of a
// bank.
func TestP23_6GreatForest(t *testing.T) {
	t.Parallel()
	r := draw.Numbers(2365)
	d, w := newWood(t, &r, api.Config{Blocks: 3000, Clones: 8, Refs: 60})
	for range 2 {
		w.plant()
		for range 500 {
			w.keys = append(w.keys, grove.Key(&r))
			w.put()
		}
	}
	last := w.write(t, d)
	equal(t, "many pages", w.v.Tally(held) > 500, true)
	for range 6 {
		w.steps(30)
		l, x := lying{blocks: blocksOf(d)}, w.lasting()
		acts := modelWrite(t, x.s, grove.StoreFrom(w.v))
		for _, n := range []int{1, 2, 3, r.Below(len(acts)), r.Below(len(acts)), len(acts) - 3, len(acts) - 2, len(acts) - 1} {
			keep := keeps(&r, pendingWrites(acts[:n]), 3)
			failed(t, l, w, last, x, n, keep[r.Below(len(keep))])
		}
		last = w.write(t, d)
		last.opens(t, d)
	}
}

// P23.6: all trees are dropped: all pages are free behind the Write, and may be handed out.
func TestP23_6AllDropped(t *testing.T) {
	t.Parallel()
	r := draw.Numbers(2366)
	for range 20 {
		d, w := newWood(t, &r, someConfig(&r, 30))
		w.steps(20)
		w.write(t, d)
		for len(w.roots) > 0 {
			equal(t, "drop", w.drop(), 0)
		}
		x := w.write(t, d)
		v := x.opens(t, d)
		equal(t, "free pages", v.Tally(free), v.Len())
		equal(t, "free pages", w.v.Tally(free), v.Len())
	}
}
