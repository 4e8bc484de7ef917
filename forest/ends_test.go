package forest_test

import (
	"testing"

	"coppice/api"
	"coppice/draw"
	"coppice/grove"
)

// anyNumber is a number of any size, often one at a bound.
func anyNumber(r *draw.Numbers) int {
	bounds := []int{0, 1, -1, 2, 3, maxId, maxId + 1, maxGen, lowest, greatest, 1<<32 + 1, 1 << 16, -1 << 32}
	if r.Below(3) == 0 {
		return bounds[r.Below(len(bounds))]
	}
	return r.Below(9) - 2
}

// R1, R2, P24.11: whatever is handed in, each call ends as the model does; behind an error
// all is as it was.
func TestR1AnyArguments(t *testing.T) {
	t.Parallel()
	r, all := draw.Numbers(2501), met{}
	for range 30 {
		s := newScene(t, &r, someConfig(&r, 20))
		s.steps(20)
		for range 120 {
			row := func() []byte {
				if r.Below(4) == 0 {
					return r.Bytes(r.Below(5000))
				}
				return [][]byte{nil, {}, {0}, {0xff}, grove.Key(&r), make([]byte, 24), make([]byte, 25), make([]byte, maxValue)}[r.Below(8)]
			}
			names := callNames()
			c := call{name: names[r.Below(len(names))], a: anyNumber(&r), b: anyNumber(&r), c: anyNumber(&r), rule: anyNumber(&r), key: row(), value: row()}
			c.r = api.Range{Lo: row(), Hi: row(), Open: r.Below(2) == 0}
			c.isNil, c.ends = r.Below(2) == 0, api.Errno(anyNumber(&r))
			s.ask(c)
		}
		all.add(s.met)
	}
	for _, name := range callNames() {
		all.wants(t, 20, name+" 0")
	}
}

// R5: the same calls are answered alike, each time.
func TestR5AlikeEachTime(t *testing.T) {
	t.Parallel()
	var l []*scene
	for range 3 {
		r := draw.Numbers(2502)
		s := newScene(t, &r, api.Config{Blocks: 60, Clones: 6, Refs: 5})
		s.steps(200)
		l = append(l, s)
	}
	for _, s := range l[1:] {
		equalLists(t, "what was answered", s.row, l[0].row)
		equal(t, "what there is", whole(s.f), whole(l[0].f))
		equal(t, "what lies on the disk", seen(s.d) == seen(l[0].d), true)
	}
}

// W4: a put or a cut has room where as many pages are free as the document names, at each
// height of the tree; Clone, Drop, Commit, Get and Scan need none.
func TestW4Bounds(t *testing.T) {
	t.Parallel()
	r, all := draw.Numbers(2503), met{}
	for round := range 40 {
		s := newScene(t, &r, api.Config{Blocks: 56, Clones: 16, Refs: 60})
		s.ask(call{name: "Plant"})
		for range []int{1, 8, 9, 30, 60}[round%5] {
			s.ask(call{name: "Put", a: 1, key: grove.Key(&r), value: nil})
		}
		s.ask(call{name: "Clone", a: 1})
		if round%2 == 0 {
			s.ask(call{name: "Commit"})
		}
		h := s.p.tree(1).Height
		s.crowd(r.Below(2*h + 2))
		left := s.p.Tally(free)
		for _, c := range []call{{name: "Clone", a: 1}, {name: "Get", a: 1, key: []byte("x")}, {name: "Scan", a: 1, r: allKeys}} {
			equal(t, c.name, s.ask(c), 0)
		}
		for range 6 {
			s.ask(call{name: "All", do: []call{{name: "Put", a: 1, key: grove.Key(&r)}}, ends: errStale})
			s.ask(call{name: "All", do: []call{{name: "Put", a: 1, key: grove.Key(&r), value: r.Bytes(600)}}, ends: errStale})
			l := keysOf(s.p.now.family[1])
			s.ask(call{name: "All", do: []call{{name: "Delete", a: 1, key: []byte(l[r.Below(len(l))])}}, ends: errStale})
			equal(t, "pages free", s.f.Tally(free), left)
		}
		equal(t, "Commit", s.ask(call{name: "Commit"}), 0)
		equal(t, "Drop", s.ask(call{name: "Drop", a: 1}), 0)
		all.add(s.p.met)
	}
	all.wants(t, 1, "Put with just the room for it", "Put with a page too few", "Delete with just the room for it", "Delete with a page too few")
}
