package forest_test

import (
	"bytes"
	"testing"

	"coppice/api"
	"coppice/disk"
	"coppice/draw"
	"coppice/forest"
)

// alike: what there is is the same in all of them, and what lies on the disks too.
func alike(t *testing.T, l []called, disks []*disk.Disk) {
	t.Helper()
	for k := range l {
		equal(t, "what there is", state(l[k]), state(l[0]))
		equal(t, "what lies on the disk", bytes.Equal(disks[k].Image(), disks[0].Image()), true)
	}
}

// W7: disks with the same blocks go on alike, byte by byte: the forest that goes on from a
// commit, and those that are opened there.
func TestW7SameBlocks(t *testing.T) {
	t.Parallel()
	r, all := draw.Numbers(2491), met{}
	for round := range 40 {
		s := newScene(t, &r, someConfig(&r, []int{5, 20, 60, 250}[round%4]))
		for range r.Below(4) {
			s.steps(12)
			s.ask(call{name: "Commit"})
		}
		l, disks := []called{s.p, s.f}, []*disk.Disk{s.p.d, s.d}
		for range 2 {
			d := twin(t, s.d)
			l, disks = append(l, opened(t, d)), append(disks, d)
		}
		if s.p.Tally(fresh)+s.p.Tally(pending) > 0 {
			t.Fatal("all that there is lasts")
		}
		for range 30 {
			c := s.some(0)
			want, _ := c.on(l[0])
			for _, f := range l[1:] {
				got, _ := c.on(f)
				equal(t, c.name, got, want)
			}
			if c.name == "Commit" {
				alike(t, l, disks)
			}
			all[c.name]++
		}
		for _, f := range l {
			equal(t, "Commit", f.Commit(), 0)
		}
		alike(t, l, disks)
	}
	all.wants(t, 20, "Commit", "Put", "Delete", "Clone", "Drop", "Merge", "All")
}

// W7: so do disks that are formatted and on which the same is done, whatever lay there.
func TestW7FromFormatOn(t *testing.T) {
	t.Parallel()
	r := draw.Numbers(2492)
	for range 60 {
		d := twin(t, someDisk(t, &r))
		c := api.Config{Blocks: d.Blocks(), Clones: 1 + r.Below(16), Refs: 2 + r.Below(9)}
		o := twin(t, d)
		f, e := forest.Format(d, c)
		equal(t, "Format", e, 0)
		s := &scene{t: t, r: &r, d: d, f: f, p: plainFormat(t, o, c), met: met{}, keys: [][]byte{{1}, {2}, {3, 4}}}
		s.last = s.p.now
		l, disks := []called{s.p, s.f}, []*disk.Disk{o, d}
		alike(t, l, disks)
		for range 3 {
			s.steps(8)
			equal(t, "Commit", s.ask(call{name: "Commit"}), 0)
			alike(t, l, disks)
		}
	}
}
