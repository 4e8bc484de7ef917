package forest_test

import (
	"bytes"
	"fmt"
	"testing"

	"coppice/api"
	"coppice/disk"
	"coppice/draw"
	"coppice/forest"
)

// settled is the world that there is behind a commit of this one.
func (w world) settled() world {
	w.store = w.store.Copy()
	w.store.Settle()
	w.coming.Gen++
	return w
}

// plan is where things lie on the scene's disk.
func (s *scene) plan() api.Plan { return plan(s.t, s.p.now.coming.Config) }

// acts is how many acts a commit is now: the block of the superblock twice, the pages, the
// bank, and three syncs.
func (s *scene) acts() int { return 2 + s.p.Tally(fresh) + s.plan().Bank + 3 }

// blocksIn is those in which a state that lasts lies: its superblock, its bank, its pages.
func blocksIn(p api.Plan, w world) []int {
	slot := (w.coming.Gen - 1) % 2
	l := []int{slot}
	for i := range p.Bank {
		l = append(l, 2+slot*p.Bank+i)
	}
	for k, lasts := range w.store.Lasts {
		if lasts == 1 {
			l = append(l, p.First+k)
		}
	}
	return l
}

// keeps is which of so many writes last, if any do: all, none, or some.
func keeps(r *draw.Numbers, n int) []bool {
	keep, often := make([]bool, n), r.Below(5)
	for k := range keep {
		keep[k] = r.Below(4) < often
	}
	return keep
}

// failing lets the power fail at an act of a commit, of this number, and come back; what
// lasts is opened.
func (s *scene) failing(n int) {
	s.t.Helper()
	before, coming, acts := blocksOf(s.d), s.p.now.settled(), s.acts()
	s.d.Arm(n)
	s.p.d.Arm(n)
	equal(s.t, "Commit with the power failing", s.ask(call{name: "Commit"}), errDown)
	s.isDead()
	for _, at := range blocksIn(s.plan(), s.last) {
		equal(s.t, fmt.Sprintf("block %d of what lasts, with power failing at act %d", at, n), bytes.Equal(blocksOf(s.d)[at], before[at]), true)
	}
	keep := keeps(s.r, len(s.d.Unsynced()))
	s.d.On(keep)
	s.p.d.On(keep)
	what := "what lasted is opened"
	if n == acts-1 && len(keep) > 0 && keep[0] { // the superblock alone was not synced then
		s.last, what = coming, "what was being committed is opened"
	}
	s.reopen()
	s.met[what]++
}

// reopen opens what lasts, in both.
func (s *scene) reopen() {
	s.t.Helper()
	unwritten(s.t, s.d, func() { s.f = opened(s.t, s.d) })
	s.p.now, s.p.dead = s.last, false
	equal(s.t, "what is opened", whole(s.f), whole(s.p))
	equal(s.t, "the family", familyOf(s.t, s.f).told(), s.last.family.told())
}

// isDead: each call but those that tell what there is, is answered ErrDown, and turns
// nothing.
func (s *scene) isDead() {
	s.t.Helper()
	before := state(s.f)
	equal(s.t, "a dead forest", s.f.Dead(), true)
	for _, name := range callNames() {
		for range 2 {
			c := s.some(1)
			c.name = name
			if c.name == "All" {
				c.do = []call{{name: "Plant"}}
			}
			got, e := c.on(s.f)
			equal(s.t, name+" of a dead forest: "+got, e, errDown)
			equal(s.t, name+" of a dead forest", got, toldNothing(name, errDown))
		}
	}
	equal(s.t, "a dead forest is as it was", state(s.f), before)
	equal(s.t, "a dead forest is as it was when it died", before, state(s.p))
}

// callNames is the calls that have an error.
func callNames() []string {
	return []string{"Plant", "Clone", "Drop", "Put", "Delete", "Trim", "Get", "Scan", "List", "Swap", "All", "Commit", "Diff", "Merge", "Reach", "Check"}
}

// toldNothing is the answer of a call beside an error: zero values.
func toldNothing(name string, e api.Errno) string {
	none := map[string]string{
		"Plant": "0 ", "Clone": "0 ", "Put": "false ", "Delete": "false ", "Trim": "0 ", "Get": "false ", "Scan": "true ", "Reach": "[] ", "All": "() ",
		"Check": "{Trees:0 Pages:0 Leaves:0 Index:0 Blobs:0 Items:0 Bytes:0 Bad:[]} ",
	}
	return fmt.Sprint(none[name], "error ", int(e))
}

// W2: scripts in which the power fails anywhere, and it goes on from what is opened then, or
// with the forest that has not seen it.
func TestW2Scripts(t *testing.T) {
	t.Parallel()
	r, all := draw.Numbers(2411), met{}
	for round := range 40 {
		s := newScene(t, &r, someConfig(&r, []int{5, 12, 30, 60, 241}[round%5]))
		for range 14 {
			s.steps(r.Below(9))
			switch r.Below(5) {
			case 0:
				equal(t, "Commit", s.ask(call{name: "Commit"}), 0)
			case 1:
				s.off()
				s.reopen()
			case 2:
				s.off()
				s.steps(4)
			case 3:
				s.failing(s.acts() - 1)
			default:
				s.failing(r.Below(s.acts()))
			}
		}
		all.add(s.met)
	}
	all.wants(t, 40, "what lasted is opened", "what was being committed is opened", "Commit 0")
}

// off lets the power go and come back, while nothing is written.
func (s *scene) off() {
	s.t.Helper()
	equalLists(s.t, "nothing is left to be synced", s.d.Unsynced(), nil)
	for _, d := range []*disk.Disk{s.d, s.p.d} {
		d.Off()
		d.On([]bool{true, true})
	}
}

// W2: the power fails at each act of a commit in turn, and any of what was not synced lasts.
func TestW2EachActOfACommit(t *testing.T) {
	t.Parallel()
	r, all := draw.Numbers(2412), met{}
	for round := range 24 {
		s := newScene(t, &r, someConfig(&r, []int{5, 12, 30, 241}[round%4]))
		for n := 0; n < s.acts(); n++ {
			s.steps(1 + r.Below(5))
			s.failing(min(n, s.acts()-1))
			if r.Below(3) == 0 {
				equal(t, "Commit", s.ask(call{name: "Commit"}), 0)
			}
		}
		s.failing(s.acts() - 1)
		s.failing(s.acts() - 2)
		all.add(s.met)
	}
	all.wants(t, 10, "what lasted is opened", "what was being committed is opened")
}

// toldOpen is what is opened on a disk: the error, or all of the forest.
func toldOpen(t *testing.T, d *disk.Disk) string {
	t.Helper()
	f, e := forest.Open(d)
	if e != 0 {
		equal(t, "no forest beside an error", f == nil, true)
		return fmt.Sprint("error ", int(e))
	}
	return whole(f)
}

// W2: the power fails at each act of Format in turn, on a disk of any kind; what is opened
// then is the empty forest, or what would have been opened of the disk with bytes 0 in
// neither, either or both of its first blocks. Format again succeeds.
func TestW2EachActOfFormat(t *testing.T) {
	t.Parallel()
	r, met := draw.Numbers(2413), met{}
	for round := range 60 {
		c := someConfig(&r, []int{5, 12, 30, 241}[round%4])
		s := newScene(t, &r, c)
		for range r.Below(4) {
			s.steps(8)
			s.ask(call{name: "Commit"})
		}
		lay := s.d
		if r.Below(4) == 0 {
			written(t, lay, r.Below(3), anyBytes(&r))
			equal(t, "Sync", lay.Sync(), 0)
		}
		other := someConfig(&r, 9)
		other.Blocks = c.Blocks
		empty := newDisk(t, c.Blocks)
		g, e := forest.Format(empty, other)
		equal(t, "Format", e, 0)
		may := map[string]string{whole(g): "the empty forest"}
		for mask := range 4 {
			d := twin(t, lay)
			for at := range 2 {
				if mask>>at&1 == 1 {
					written(t, d, at, make([]byte, blockSize))
				}
			}
			may[toldOpen(t, d)] = "what lay there"
		}
		for n := range 2 + 1 + plan(t, other).Bank + 1 + 1 + 1 {
			for range 3 {
				d := twin(t, lay)
				d.Arm(n)
				f, e := forest.Format(d, other)
				equal(t, "Format with the power failing", e, errDown)
				equal(t, "no forest beside an error", f == nil, true)
				d.On(keeps(&r, len(d.Unsynced())))
				got := toldOpen(t, d)
				if may[got] == "" {
					t.Fatalf("with the power failing at act %d of Format %s is opened", n, got)
				}
				met[may[got]]++
				f, e = forest.Format(d, other)
				equal(t, "Format again", e, 0)
				equal(t, "the forest", whole(f), whole(g))
				equal(t, "what is opened", toldOpen(t, d), whole(g))
			}
		}
	}
	met.wants(t, 40, "the empty forest", "what lay there")
}
