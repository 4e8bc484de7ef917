package forest_test

import (
	"testing"

	"coppice/draw"
)

// W1, W3, W4 and P24.11: scripts of calls of all kinds, each held against maps and a plain
// store of pages; behind an error all is as it was.
func TestW1Scripts(t *testing.T) {
	t.Parallel()
	r, all := draw.Numbers(2401), met{}
	for round := range 60 {
		s := newScene(t, &r, someConfig(&r, []int{4, 8, 12, 30, 60, 100}[round%6]))
		s.steps(120)
		all.add(s.met)
		all.add(s.p.met)
	}
	for _, name := range callNames() {
		all.wants(t, 100, name+" 0")
	}
	all.wants(t, 2, "Plant 14", "Clone 9", "Clone 13", "Clone 14", "Drop 9", "Put 7", "Put 8", "Put 9", "Put 12", "Put 13", "Delete 7", "Delete 9", "Delete 12")
	all.wants(t, 2, "Trim 9", "Trim 12", "Get 7", "Get 9", "Scan 9", "List 9", "Swap 9", "All 1", "All 17", "All 20", "Diff 9", "Merge 1", "Merge 9", "Merge 12", "Merge 26", "Reach 9")
	all.wants(t, 1, "Delete 13", "Trim 13", "Merge 13")
	all.wants(t, 15, "Put with just the room for it", "Put with a page too few", "Delete with just the room for it", "Delete with a page too few", "walks gone over late")
}
