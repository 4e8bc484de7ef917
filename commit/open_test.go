package commit_test

import (
	"fmt"
	"slices"
	"testing"

	"coppice/api"
	"coppice/commit"
	"coppice/disk"
	"coppice/draw"
	"coppice/grove"
)

// inSlot is what lies in one of the first two blocks, and the superblock that it is, if it
// is a candidate there.
type inSlot struct {
	what  string
	bytes []byte
	is    []api.Super
}

// inSlots is what may lie in a slot of a disk of 12 blocks, of all kinds.
func inSlots(r *draw.Numbers, slot int) []inSlot {
	c := api.Config{Blocks: 12, Clones: 3, Refs: 9}
	l := []inSlot{{"bytes 0", make([]byte, blockSize), nil}, {"any bytes", anyBytes(r), nil}}
	for _, gen := range []int{0, 1, 2, 3, 6, 7, 258, 259, maxGen - 1, maxGen} {
		for _, s := range []api.Super{
			{Gen: gen, Config: c, Next: 1},
			{Gen: gen, Config: api.Config{Blocks: 12, Clones: 16, Refs: 65535}, Next: 9, Roots: roots(tree(8, 12, 64), api.Tree{}, tree(1, 1, 1))},
		} {
			if gen%2 == slot {
				l = append(l, inSlot{"one that belongs there", superBlock(s), []api.Super{s}})
			} else {
				l = append(l, inSlot{"one of the other slot", superBlock(s), nil})
			}
		}
	}
	mine := api.Super{Gen: 10 + slot, Config: c, Next: 1}
	for _, blocks := range []int{8, 11, 13, maxBlocks} {
		s := mine
		s.Config.Blocks = blocks
		l = append(l, inSlot{"one of a disk of other blocks", superBlock(s), nil})
	}
	turned := superBlock(mine)
	turned[r.Below(blockSize)] ^= 1
	l = append(l, inSlot{"one with a bit turned", turned, nil})
	for _, s := range slices.Concat(wrongSupers(api.Super{Gen: 8 + slot, Config: c, Next: 9, Roots: roots(tree(1, 1, 4), tree(2, 2, 9))})[errOrder],
		[]api.Super{{Gen: maxGen + 1 + slot, Config: c, Next: 1}, {Gen: 8 + slot, Config: c, Next: 0}}) {
		l = append(l, inSlot{"one that cannot be", superBlock(s), nil})
	}
	return append(l, inSlot{"a bank", bankBlocks(4+slot, make([]int, 8))[0], nil})
}

// P23.3: whatever lies in either block, of all kinds; the higher generation comes first.
func TestP23_3Candidates(t *testing.T) {
	t.Parallel()
	r, met := draw.Numbers(2331), met{}
	blocks := slices.Repeat([][]byte{make([]byte, blockSize)}, 12)
	for _, a := range inSlots(&r, 0) {
		for _, b := range inSlots(&r, 1) {
			blocks[0], blocks[1] = a.bytes, b.bytes
			d := diskOf(t, blocks)
			want := slices.Concat(a.is, b.is)
			if len(want) == 2 && want[0].Gen < want[1].Gen {
				slices.Reverse(want)
			}
			candidates(t, d, want...)
			equalLists(t, "the model", toldAll(modelCandidates(d)), toldAll(want))
			met[fmt.Sprint(len(want))]++
			met[a.what]++
			met[b.what]++
			d.Off()
			unwritten(t, d, func() {
				l, e := commit.Candidates(d)
				equal(t, "Candidates without power", e, errDown)
				equal(t, "Candidates without power", len(l), 0)
			})
		}
	}
	met.wants(t, 50, "0", "1", "2", "one that belongs there", "one of the other slot", "one of a disk of other blocks", "one that cannot be")
}

// P23.3 and P23.4: what blocks show counts, whether it lasts or not.
func TestP23_3Unsynced(t *testing.T) {
	d, s, v := example(t)
	first := api.Super{Config: exampleConfig, Next: 1}
	was, _ := d.Read(1)
	written(t, d, 1, anyBytes(new(draw.Numbers)))
	candidates(t, d, first)
	opens(t, d, first)
	written(t, d, 1, was)
	candidates(t, d, s, first)
	equal(t, "a page that is not as it was", grove.StoreFrom(v).Differs(opens(t, d, s)), 0)
	written(t, d, 4, was)
	candidates(t, d, s, first)
	opens(t, d, first)
	d.Off()
	opensNone(t, d, errDown)
	d.On([]bool{true})
	candidates(t, d, first)
	opens(t, d, first)
	d.Off()
	d.On(nil)
	candidates(t, d, first)
	opens(t, d, first)
}

// blocks is those in which a state lies.
func (x state) blocks() []int {
	p := plan(x.s.Config)
	l := []int{x.s.Gen % 2}
	for i := range p.Bank {
		l = append(l, 2+x.s.Gen%2*p.Bank+i)
	}
	for k, c := range x.store.Counts {
		if c > 0 {
			l = append(l, p.First+k)
		}
	}
	return l
}

// twoStates is a disk on which two generations lie whole, the newer one first.
func twoStates(t *testing.T, r *draw.Numbers, pages int) (*disk.Disk, []state) {
	t.Helper()
	d, w := newWood(t, r, someConfig(r, pages))
	l := []state{w.lasting()}
	l[0].s = w.s // what was formatted
	for range 1 + r.Below(4) {
		w.steps(1 + r.Below(12))
		l = append(l, w.write(t, d))
	}
	return d, []state{l[len(l)-1], l[len(l)-2]}
}

// opensOneOf: with these blocks spoiled, what is opened is the newest of the states that lie
// in none of them.
func opensOneOf(t *testing.T, d *disk.Disk, l []state, spoiled []int) string {
	t.Helper()
	for k, x := range l {
		if !slices.ContainsFunc(x.blocks(), func(at int) bool { return slices.Contains(spoiled, at) }) {
			x.opens(t, d)
			return []string{"the newer one", "the older one"}[k]
		}
	}
	opensNone(t, d, errCorrupt)
	return "none"
}

// spoiled is a block with something else in it: bytes 0, any bytes, or with a few bits turned.
func spoiled(r *draw.Numbers, b []byte) []byte {
	switch r.Below(4) {
	case 0:
		if !isZeros(b) {
			return make([]byte, blockSize)
		}
	case 1:
		return anyBytes(r)
	}
	b = slices.Clone(b)
	b[r.Below(blockSize)] ^= byte(1 + r.Below(255))
	return b
}

// P23.4: each block by itself is spoiled: the newer forest is opened, if it does not lie
// there; else the older one, if that does not; else none.
func TestP23_4EachBlock(t *testing.T) {
	t.Parallel()
	r, met := draw.Numbers(2341), met{}
	for range 40 {
		d, l := twoStates(t, &r, []int{5, 20, 30, 245}[r.Below(4)])
		blocks := blocksOf(d)
		candidates(t, d, l[0].s, l[1].s)
		met[opensOneOf(t, d, l, nil)]++
		for at, b := range blocks {
			if at > 40 && r.Below(8) > 0 {
				continue
			}
			written(t, d, at, spoiled(&r, b))
			met[opensOneOf(t, d, l, []int{at})]++
			written(t, d, at, b)
		}
		l[0].opens(t, d)
	}
	met.wants(t, 20, "the newer one", "the older one", "none")
}

// P23.4: several blocks are spoiled.
func TestP23_4SeveralBlocks(t *testing.T) {
	t.Parallel()
	r, met := draw.Numbers(2342), met{}
	for range 60 {
		d, l := twoStates(t, &r, []int{5, 20, 30, 245}[r.Below(4)])
		blocks := blocksOf(d)
		for range 6 {
			var where []int
			for range 2 + r.Below(2) {
				from := l[r.Below(2)].blocks()
				at := from[r.Below(len(from))]
				if r.Below(3) == 0 {
					at = r.Below(len(blocks))
				}
				where = append(where, at)
				written(t, d, at, spoiled(&r, blocks[at]))
			}
			met[opensOneOf(t, d, l, where)]++
			for _, at := range where {
				written(t, d, at, blocks[at])
			}
		}
	}
	met.wants(t, 10, "the newer one", "the older one", "none")
}

// P23.4: a newer superblock that is right as a block, but whose forest is not whole: the
// older forest is opened.
func TestP23_4NotWhole(t *testing.T) {
	t.Parallel()
	r, met := draw.Numbers(2343), met{}
	for range 60 {
		d, l := twoStates(t, &r, 30)
		slot := l[0].s.Gen % 2
		if len(l[0].s.Roots) == 0 || l[0].s.Roots[0].Tree.Root == 0 {
			continue
		}
		for _, turn := range []func(*api.Super){
			func(s *api.Super) { s.Gen += 2 },
			func(s *api.Super) { s.Roots[0].Tree = tree(30, 3, 30) },
			func(s *api.Super) { s.Roots[0].Tree.Items++ },
			func(s *api.Super) { s.Roots = nil },
			func(s *api.Super) { s.Roots[0].Tree = api.Tree{} },
		} {
			s := l[0].s
			s.Roots = slices.Clone(s.Roots)
			turn(&s)
			written(t, d, slot, superBlock(s))
			candidates(t, d, s, l[1].s)
			l[1].opens(t, d)
			met["not whole"]++
			written(t, d, 1-slot, make([]byte, blockSize))
			opensNone(t, d, errCorrupt)
			written(t, d, 1-slot, superBlock(l[1].s))
		}
		written(t, d, slot, superBlock(l[0].s))
		l[0].opens(t, d)
	}
	met.wants(t, 50, "not whole")
}

// P23.4: the candidates are taken in the order of their generations, not of their blocks.
func TestP23_4EitherSlot(t *testing.T) {
	t.Parallel()
	r := draw.Numbers(2344)
	d, w := newWood(t, &r, api.Config{Blocks: 40, Clones: 4, Refs: 9})
	for gen := 1; gen < 12; gen++ {
		w.steps(4)
		x := w.write(t, d)
		equal(t, "Gen", x.s.Gen, gen)
		x.opens(t, d)
	}
}

// P23.4: disks of bytes 0, and of any bytes, of all sizes.
func TestP23_4NoForest(t *testing.T) {
	t.Parallel()
	r := draw.Numbers(2345)
	for _, blocks := range []int{8, 9, 12, 245, 500, maxBlocks} {
		d := newDisk(t, blocks)
		opensNone(t, d, errCorrupt)
		candidates(t, d)
		d.Off()
		opensNone(t, d, errDown)
		if blocks < maxBlocks {
			l := lying{}
			for range blocks {
				l.blocks = append(l.blocks, anyBytes(&r))
			}
			d = l.disk(t)
			opensNone(t, d, errCorrupt)
			candidates(t, d)
		}
	}
}

// opensAsModel: what is opened is what the model opens.
func opensAsModel(t *testing.T, d *disk.Disk) string {
	t.Helper()
	candidates(t, d, modelCandidates(d)...)
	want, v, e := modelOpen(d)
	if e != 0 {
		opensNone(t, d, e)
		return fmt.Sprint("error ", int(e))
	}
	store := grove.StoreFrom(v)
	got := opens(t, d, want)
	equal(t, "a page that is not as fsck loads it", store.Differs(got), 0)
	equal(t, "Mark", got.Mark(), 0)
	return fmt.Sprint("candidate ", slices.Index(toldAll(modelCandidates(d)), told(want)))
}

// P23.4: of disks of all kinds: behind a few Writes, with blocks of other forests in it, and
// with blocks that were not synced.
func TestP23_4AnyDisk(t *testing.T) {
	t.Parallel()
	r, met := draw.Numbers(2346), met{}
	for range 500 {
		c := someConfig(&r, []int{4, 9, 20, 60, 241}[r.Below(5)])
		met[opensAsModel(t, someDisk(t, &r, c).disk(t))]++
	}
	met.wants(t, 30, "error 18", "candidate 0", "candidate 1")
}

// P23.5: neither call is an act: an alarm is not nearer behind it, and no power fails at it;
// and asked again they answer the same.
func TestP23_5NoAct(t *testing.T) {
	t.Parallel()
	r := draw.Numbers(2351)
	for round := range 60 {
		d := someDisk(t, &r, someConfig(&r, 20)).disk(t)
		acts := round % 3
		d.Arm(acts)
		want := ""
		for again := range 4 {
			unwritten(t, d, func() {
				l, e := commit.Candidates(d)
				got := fmt.Sprint(toldAll(l), int(e), toldOpen(d))
				if again == 0 {
					want = got
				}
				equal(t, "asked again", got, want)
			})
		}
		for range acts {
			equal(t, "Sync", d.Sync(), 0)
		}
		equal(t, "the act at which the power fails", d.Sync(), errDown)
	}
}
