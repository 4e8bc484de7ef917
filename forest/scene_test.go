package forest_test

import (
	"fmt"
	"iter"
	"slices"
	"testing"

	"coppice/api"
	"coppice/disk"
	"coppice/draw"
	"coppice/forest"
	"coppice/grove"
)

// scene is a forest and its model, side by side, each over a disk of its own; what is asked
// of the one is asked of the other.
type scene struct {
	t     *testing.T
	r     *draw.Numbers
	d     *disk.Disk
	f     *forest.Forest
	p     *plain
	last  world    // what lasts
	keys  [][]byte // that come often, so that trees meet
	walks []held1
	met   met
	row   []string // of calls, up to now
}

// held1 is a walk that was asked for, with what it must go over whenever that is done.
type held1 struct {
	walk iter.Seq2[[]byte, []byte]
	want string
}

// newScene is the empty forest on disks that were formatted.
func newScene(t *testing.T, r *draw.Numbers, c api.Config) *scene {
	t.Helper()
	s := &scene{t: t, r: r, met: met{}}
	s.d, s.f = formatted(t, c)
	s.p = plainFormat(t, newDisk(t, c.Blocks), c)
	s.last = s.p.now
	for range 30 {
		s.keys = append(s.keys, grove.Key(r))
	}
	return s
}

// someConfig is a config of a disk of so many pages, and of a few blocks more, where there
// may be some that are left over.
func someConfig(r *draw.Numbers, pages int) api.Config {
	blocks := 2 + 2*((pages+perBlock-1)/perBlock) + pages
	if pages%perBlock == 0 {
		blocks += r.Below(3)
	}
	return api.Config{Blocks: blocks, Clones: 1 + r.Below(16), Refs: 2 + r.Below(2)*r.Below(2)*r.Below(12)}
}

// steps does so many calls.
func (s *scene) steps(n int) {
	s.t.Helper()
	for range n {
		s.ask(s.some(0))
	}
}

// ask asks both the same, and holds them against each other: the answer, and what is there
// behind it.
func (s *scene) ask(c call) api.Errno {
	s.t.Helper()
	w, n := s.d.Acts()
	want, e := c.on(s.p)
	got, _ := c.on(s.f)
	s.row = append(s.row, fmt.Sprintf("%s %d %d %d %x: %s", c.name, c.a, c.b, c.c, c.key, got))
	if got != want {
		s.t.Fatalf("%q\n%s\nwant %s", s.row[max(0, len(s.row)-9):], got, want)
	}
	s.met[fmt.Sprint(c.name, " ", int(e))]++
	equal(s.t, "what is there behind "+c.name, state(s.f), state(s.p))
	if c.name == "Commit" {
		if e == 0 {
			s.last = s.p.now
		}
		equal(s.t, "the disk is as it must be", seen(s.d) == seen(s.p.d), true)
	} else {
		w2, n2 := s.d.Acts()
		equal(s.t, "no act behind "+c.name, [2]int{w2, n2}, [2]int{w, n})
	}
	s.p.right()
	if s.r.Below(8) == 0 {
		equal(s.t, "all of it behind "+c.name, whole(s.f), whole(s.p))
	}
	s.hold()
	return e
}

// hold keeps a walk here and there, and goes over one that was kept.
func (s *scene) hold() {
	s.t.Helper()
	if s.r.Below(6) > 0 || s.p.dead || len(s.p.now.family) == 0 {
		return
	}
	id, r := s.id(), s.ranged()
	if s.p.missing(id) == 0 {
		want, _ := s.p.List(id, r)
		walk, e := s.f.Scan(id, r)
		equal(s.t, "Scan", e, 0)
		s.walks = append(s.walks, held1{walk, toldPairs(want)})
	}
	if len(s.walks) > 0 {
		x := s.walks[s.r.Below(len(s.walks))]
		equal(s.t, "a walk that was kept", toldWalk(x.walk), x.want)
		s.met["walks gone over late"]++
	}
}

// id is one of the ids, or, here and there, one of which there is none.
func (s *scene) id() int {
	l := s.p.now.coming.Roots
	if len(l) == 0 || s.r.Below(30) == 0 {
		return []int{0, -1, s.p.now.coming.Next, s.r.Below(s.p.now.coming.Next + 2), greatest, lowest}[s.r.Below(6)]
	}
	return l[s.r.Below(len(l))].Id
}

func (s *scene) key() []byte {
	if s.r.Below(60) == 0 {
		return [][]byte{nil, {}, make([]byte, maxKey+1), make([]byte, 1000)}[s.r.Below(4)]
	}
	return s.keys[s.r.Below(len(s.keys))]
}

func (s *scene) value() []byte {
	if s.r.Below(60) == 0 {
		return make([]byte, maxValue+1+s.r.Below(9))
	}
	if s.r.Below(4) == 0 {
		sizes := grove.Sizes()
		return s.r.Bytes(sizes[s.r.Below(len(sizes))])
	}
	return s.r.Bytes(s.r.Below(4))
}

func (s *scene) ranged() api.Range {
	lo := s.keys[s.r.Below(len(s.keys))]
	switch s.r.Below(6) {
	case 0:
		return allKeys
	case 1:
		return api.Range{Lo: lo, Open: true}
	case 2:
		return api.Range{Lo: lo, Hi: s.keys[s.r.Below(len(s.keys))]} // empty, often
	}
	return api.Range{Lo: lo, Hi: append(slices.Clip(lo[:s.r.Below(len(lo)+1)]), 0xfe)}
}

// some is a call of any kind; it may stand so deep within others.
func (s *scene) some(deep int) call {
	names := []string{
		"Put", "Put", "Put", "Put", "Put", "Put", "Put", "Put", "Put", "Put", "Delete", "Delete", "Delete", "Delete", "Plant", "Clone", "Clone", "Clone",
		"Drop", "Trim", "Get", "Scan", "List", "Swap", "Diff", "Merge", "Merge", "Reach", "Check", "Commit", "All", "All",
	}
	c := call{name: names[s.r.Below(len(names))], a: s.id(), b: s.id(), c: s.id(), key: s.key(), value: s.value(), r: s.ranged(), rule: s.r.Below(3)}
	if len(s.p.now.family) == 0 && s.r.Below(4) > 0 {
		c.name = "Plant"
	}
	if s.r.Below(20) == 0 {
		c.rule = []int{-1, 3, lowest, greatest, 1<<32 + 1}[s.r.Below(5)]
	}
	if c.name == "All" {
		if deep > 2 {
			c.isNil = true
			return c
		}
		for range s.r.Below(6) {
			c.do = append(c.do, s.some(deep+1))
		}
		c.isNil = s.r.Below(20) == 0
		c.ends = []api.Errno{0, 0, 0, errStale, errArg, errDown, -5, 999}[s.r.Below(8)]
	}
	return c
}
