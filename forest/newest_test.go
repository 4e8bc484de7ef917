package forest_test

import (
	"fmt"
	"slices"
	"testing"

	"coppice/api"
	"coppice/draw"
	"coppice/forest"
	"coppice/super"
)

// spoilt is a block with something else in it: bytes 0, any bytes, or with a few bits turned.
func spoilt(r *draw.Numbers, b []byte) []byte {
	switch r.Below(4) {
	case 0:
		if !slices.Equal(b, make([]byte, blockSize)) {
			return make([]byte, blockSize)
		}
	case 1:
		return anyBytes(r)
	}
	b = slices.Clone(b)
	b[r.Below(blockSize)] ^= byte(1 + r.Below(255))
	return b
}

// twoCommits is a scene behind a few commits, and the two worlds that lie there, the newer
// one first.
func twoCommits(t *testing.T, r *draw.Numbers) (*scene, []world) {
	t.Helper()
	s := newScene(t, r, someConfig(r, []int{5, 12, 30, 245}[r.Below(4)]))
	older := s.last
	for range 1 + r.Below(4) {
		older = s.last
		s.steps(6)
		for s.last.coming.Gen == older.coming.Gen || r.Below(3) == 0 {
			older = s.last
			equal(t, "Commit", s.ask(call{name: "Commit"}), 0)
		}
	}
	if older.coming.Gen != s.last.coming.Gen-1 { // the steps have committed too
		older = s.last
		equal(t, "Commit", s.ask(call{name: "Commit"}), 0)
	}
	return s, []world{s.last, older}
}

// W6 and P24.1: some blocks are spoilt; what is opened is the newest of the two forests that
// lies in none of them, and it goes on from there.
func TestW6SpoiltBlocks(t *testing.T) {
	t.Parallel()
	r, met := draw.Numbers(2431), met{}
	for range 80 {
		s, l := twoCommits(t, &r)
		p, blocks := s.plan(), blocksOf(s.d)
		var where []int
		for range 1 + r.Below(3) {
			from := blocksIn(p, l[r.Below(2)])
			at := []int{from[r.Below(len(from))], from[0], r.Below(len(blocks))}[r.Below(3)]
			where = append(where, at)
			written(t, s.d, at, spoilt(&r, blocks[at]))
		}
		equal(t, "Sync", s.d.Sync(), 0)
		k := slices.IndexFunc(l, func(w world) bool {
			return !slices.ContainsFunc(blocksIn(p, w), func(at int) bool { return slices.Contains(where, at) })
		})
		met[[]string{"none", "the newer one", "the older one"}[k+1]]++
		if k < 0 {
			equal(t, "what is opened", toldOpen(t, s.d), fmt.Sprint("error ", errCorrupt))
			continue
		}
		next := sceneOn(t, &r, s.d)
		equal(t, "what is opened", next.p.now.family.told(), l[k].family.told())
		equal(t, "Super", told(next.f.Super()), told(l[k].coming))
		for range 3 {
			next.steps(5)
			next.failing(r.Below(next.acts()))
		}
		next.steps(5)
		next.ask(call{name: "Commit"})
		next.reopen()
	}
	met.wants(t, 8, "none", "the newer one", "the older one")
}

// W6: a newer superblock that is right as a block, but whose forest is not whole.
func TestW6NotWhole(t *testing.T) {
	t.Parallel()
	r, many := draw.Numbers(2432), 0
	for range 40 {
		s, l := twoCommits(t, &r)
		slot := (l[0].coming.Gen - 1) % 2
		for _, turn := range []func(*api.Super){
			func(x *api.Super) { x.Gen += 2 },
			func(x *api.Super) { x.Roots[0].Tree = tree(s.plan().Pages, 3, 30) },
			func(x *api.Super) { x.Roots[0].Tree.Items++ },
			func(x *api.Super) { x.Roots = nil },
			func(x *api.Super) { x.Roots[0].Tree = api.Tree{} },
		} {
			x := l[0].coming
			x.Gen--
			x.Roots = slices.Clone(x.Roots)
			if len(x.Roots) == 0 || x.Roots[0].Tree.Root == 0 {
				break
			}
			turn(&x)
			b, e := super.Encode(x)
			equal(t, "super.Encode", e, 0)
			d := twin(t, s.d)
			written(t, d, slot, b)
			f, e := forest.Open(d)
			equal(t, "Open", e, 0)
			equal(t, "Super", told(f.Super()), told(l[1].coming))
			equal(t, "the family", familyOf(t, f).told(), l[1].family.told())
			many++
		}
	}
	equal(t, "many were met", many > 30, true)
}
