package commit_test

import (
	"fmt"
	"testing"

	"coppice/api"
	"coppice/disk"
	"coppice/draw"
	"coppice/grove"
)

// followed: a call does just these acts, one behind the other, on a disk as it is found; and
// with the power failing at each of them in turn those ahead of it, and nothing else.
func followed(t *testing.T, r *draw.Numbers, what string, l lying, acts []act, call func(d *disk.Disk) api.Errno) {
	t.Helper()
	for n := range len(acts) + 1 {
		what := fmt.Sprintf("%s, with the power failing behind %d acts of %d", what, n, len(acts))
		d, want := l.disk(t), l.did(t, acts[:n])
		d.Arm(n)
		e := call(d)
		if n < len(acts) {
			equal(t, what, e, errDown)
			want.Off()
		} else {
			equal(t, what, e, 0)
		}
		same(t, what, d, want)
		if n == len(acts) {
			equal(t, what+": it fails at the next act", d.Sync(), errDown)
			want.Off()
		}
		keep := keeps(r, len(d.Unsynced()), 3)
		d.On(keep[n%len(keep)])
		want.On(keep[n%len(keep)])
		same(t, what+", and coming back", d, want)
		equal(t, what+": the alarm is gone", d.Sync(), 0)
	}
	d := l.disk(t)
	equal(t, what+", without an alarm", call(d), 0)
	same(t, what+", without an alarm", d, l.did(t, acts))
	equal(t, what+", without an alarm: there is none", d.Sync(), 0)
}

// The models of both calls, held against the document's words, for the chapter's disk.
func TestModelOfActs(t *testing.T) {
	order := func(l []act) []int {
		var all []int
		for _, a := range l {
			all = append(all, a.block)
		}
		return all
	}
	equalLists(t, "Format", order(modelFormat(exampleConfig)), []int{0, 1, noBlock, 2, noBlock, 0, noBlock})
	_, w := newWood(t, new(draw.Numbers), api.Config{Blocks: 248, Clones: 4, Refs: 9})
	w.v.Make(leaf("a"))
	w.v.Make(leaf("b"))
	w.s.Gen = 6
	equal(t, "pages", w.v.Len(), 242)
	equalLists(t, "Write", order(modelWrite(t, w.coming(), grove.StoreFrom(w.v))), []int{1, noBlock, 6, 7, 4, 5, noBlock, 1, noBlock})
	w.s.Gen = 7
	equalLists(t, "Write", order(modelWrite(t, w.coming(), grove.StoreFrom(w.v))), []int{0, noBlock, 6, 7, 2, 3, noBlock, 0, noBlock})
}
