package super_test

import (
	"bytes"
	"slices"
	"sync"
	"testing"

	"coppice/api"
	"coppice/super"
)

// What fills the spare room of lists.
const (
	markByte = 0xC3
	spare    = 600
)

var markRoot = api.Root{Id: -77, Tree: api.Tree{Root: -78, Height: -79, Items: -80}}

// roomy is the superblock with spare room behind its roots, all of it marked.
func roomy(s api.Super) api.Super {
	s.Roots = append(slices.Clone(s.Roots), slices.Repeat([]api.Root{markRoot}, spare)...)[:len(s.Roots)]
	return s
}

func roomyBytes(b []byte) []byte {
	return append(slices.Clone(b), bytes.Repeat([]byte{markByte}, spare)...)[:len(b)]
}

// untouched: are the roots as they were, their spare room too?
func untouched(s, was api.Super) bool {
	return len(s.Roots) == len(was.Roots) && slices.Equal(s.Roots[:len(was.Roots)+spare], append(slices.Clone(was.Roots), slices.Repeat([]api.Root{markRoot}, spare)...))
}

func bytesUntouched(b, was []byte) bool {
	return bytes.Equal(b[:len(was)+spare], append(slices.Clone(was), bytes.Repeat([]byte{markByte}, spare)...))
}

// spoil turns all roots, the spare room too; so does spoilBytes with bytes.
func spoil(s api.Super) {
	l := s.Roots[:cap(s.Roots)]
	for i := range l {
		l[i].Id ^= 0x5A5A
		l[i].Tree.Root ^= 0x5A5A
		l[i].Tree.Height ^= 0x5A5A
		l[i].Tree.Items ^= 0x5A5A
	}
}

func spoilBytes(b []byte) {
	b = b[:cap(b)]
	for i := range b {
		b[i] ^= 0xA5
	}
}

// some are superblocks that are taken, and one for each error.
func some() []api.Super {
	return []api.Super{first(), small(), full(),
		changed(small(), func(s *api.Super) { s.Config.Refs = 1 }),
		changed(small(), func(s *api.Super) { s.Gen = -1 }),
		changed(small(), func(s *api.Super) { s.Roots = append(s.Roots, s.Roots...) }),
		changed(small(), func(s *api.Super) { s.Roots[1].Id = 2 }),
		changed(small(), func(s *api.Super) { s.Roots[1].Tree.Items = 1 }),
		{Roots: []api.Root{{Id: 9}, {Id: 9}, {Id: 1}}},
	}
}

func TestR4Super(t *testing.T) {
	for _, s := range some() {
		in := roomy(s)
		want := modelCheck(s)
		if e := super.Check(in); e != want || !untouched(in, s) {
			t.Fatalf("Check(%v) = %d, or what was handed in is changed", s, e)
		}
		b, e := super.Encode(in)
		if e != want || !untouched(in, s) {
			t.Fatalf("Encode(%v) = %d, or what was handed in is changed", s, e)
		}
		for _, id := range []int{2, 6, 9, 77} {
			if super.Find(in, id); !untouched(in, s) {
				t.Fatalf("Find(%v, %d) changes what was handed in", s, id)
			}
		}
		spoil(in)
		if e == api.OK && !bytes.Equal(b, blockOf(s)) {
			t.Fatalf("Encode(%v): the block hangs on memory of the roots", s)
		}
	}
}

func TestR4Block(t *testing.T) {
	for _, s := range []api.Super{first(), small(), full()} {
		b := blockOf(s)
		for _, c := range [][]byte{b, b[:511], turned(b, 511, 1), resealed(turned(b, 507, 1)), resealed(turned(b, 0, 1)), with(b, atMany, 9)} {
			want, e := modelDecode(c)
			in := roomyBytes(c)
			got, f := super.Decode(in)
			if f != e || !bytesUntouched(in, c) {
				t.Fatalf("Decode(%x) = %d, want %d, or what was handed in is changed", c, f, e)
			}
			spoilBytes(in)
			if !sameSuper(got, want) {
				t.Fatalf("Decode(%x): the superblock hangs on memory of the block", c)
			}
		}
	}
}

func TestR4TwoAnswers(t *testing.T) {
	for _, s := range []api.Super{first(), small(), full()} {
		a, b := encoded(t, s), encoded(t, s)
		spoilBytes(a)
		if !bytes.Equal(b, blockOf(s)) {
			t.Error("two blocks share memory")
		}
		c, _ := super.Decode(b)
		d, _ := super.Decode(b)
		spoil(c)
		if !sameSuper(d, s) {
			t.Error("two superblocks share memory")
		}
		decodes(t, "behind answers that were turned", b, s)
		if again := encoded(t, s); !bytes.Equal(again, b) {
			t.Error("Encode answers something else behind answers that were turned")
		}
	}
}

// The same is answered each time, whoever else asks.
func TestR5SeveralAtATime(t *testing.T) {
	s := full()
	b := blockOf(s)
	var all sync.WaitGroup
	for range 8 {
		all.Go(func() {
			for range 100 {
				got, e := super.Decode(b)
				block, f := super.Encode(s)
				tree, ok := super.Find(s, mostId)
				if e != api.OK || f != api.OK || !ok || !sameSuper(got, s) || !bytes.Equal(block, b) || tree != s.Roots[15].Tree || super.Check(s) != api.OK {
					t.Error("something else is answered")
					return
				}
			}
		})
	}
	all.Wait()
}

// Spare room, and how much of it there is, is not seen.
func TestR5SpareRoom(t *testing.T) {
	for _, s := range some() {
		if e := super.Check(roomy(s)); e != super.Check(s) {
			t.Errorf("Check(%v) with spare room = %d", s, e)
		}
		if _, ok := super.Find(roomy(s), markRoot.Id); ok {
			t.Errorf("Find looks into the spare room of %v", s)
		}
	}
	decodes(t, "with spare room", roomyBytes(blockOf(small())), small())
	refused(t, "511 bytes of a block", blockOf(small())[:511], api.ErrArg)
}
