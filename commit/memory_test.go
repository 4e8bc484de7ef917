package commit_test

import (
	"bytes"
	"fmt"
	"slices"
	"sync"
	"testing"

	"coppice/api"
	"coppice/commit"
	"coppice/disk"
	"coppice/draw"
	"coppice/grove"
)

// spare is how many roots fit behind a roomy list, each of them this one.
const spare = 9

var mark = api.Root{Id: -5, Tree: tree(-7, -8, -9)}

// roomy is the list with spare room behind it, all of it marked.
func roomy(l []api.Root) []api.Root {
	return append(slices.Clone(l), slices.Repeat([]api.Root{mark}, spare)...)[:len(l)]
}

// untouched: are a roomy list and its spare room as they were?
func untouched(l, was []api.Root) bool {
	return slices.Equal(l, was) && slices.Equal(l[len(l):len(l)+spare], slices.Repeat([]api.Root{mark}, spare))
}

// spoil writes over all of a list of roots, its spare room too.
func spoil(l []api.Root) {
	l = l[:cap(l)]
	for k := range l {
		l[k] = mark
	}
}

// P23.8: the superblock that is handed in is neither changed nor kept, its spare room
// included; with an error neither.
func TestP23_8WhatIsHandedIn(t *testing.T) {
	t.Parallel()
	r := draw.Numbers(2381)
	for round := range 40 {
		d, w := newWood(t, &r, someConfig(&r, 30))
		for range 4 {
			w.steps(6)
			x := w.lasting()
			given := x.s
			given.Roots = roomy(x.s.Roots)
			if round%2 == 0 {
				twin := lying{blocks: blocksOf(d)}.disk(t)
				twin.Arm(r.Below(4))
				equal(t, "Write", commit.Write(twin, given, w.v), errDown)
				equal(t, "what was handed in", untouched(given.Roots, x.s.Roots), true)
			}
			equal(t, "Write", commit.Write(d, given, w.v), 0)
			equal(t, "what was handed in", untouched(given.Roots, x.s.Roots), true)
			spoil(given.Roots)
			x.opens(t, d)
			x.isIn(t, w.v)
			w.s = x.s
		}
	}
}

// P23.8: the vault that was written is not kept: what is done to it, and to what it tells,
// does not change the disk, nor does what is done to the disk change it.
func TestP23_8TheVault(t *testing.T) {
	t.Parallel()
	r := draw.Numbers(2382)
	for range 30 {
		d, w := newWood(t, &r, someConfig(&r, 40))
		w.steps(12)
		x := w.write(t, d)
		for _, p := range w.v.Pages(held) {
			spoilPage(p)
		}
		x.isIn(t, w.v)
		w.steps(12)
		w.v.Settle()
		x.opens(t, d)
		store := grove.StoreFrom(w.v)
		for at := range d.Blocks() {
			written(t, d, at, anyBytes(&r))
		}
		equal(t, "a page that is not as it was", store.Differs(w.v), 0)
	}
}

// spoilPage writes over all lists of a page.
func spoilPage(p api.Page) {
	for _, i := range p.Items {
		clear(i.Key[:cap(i.Key)])
		clear(i.Value[:cap(i.Value)])
	}
	clear(p.Items[:cap(p.Items)])
	clear(p.Data[:cap(p.Data)])
}

// P23.8: what Candidates tell is new memory each time, and no two lists of it share any.
func TestP23_8Candidates(t *testing.T) {
	t.Parallel()
	r, many := draw.Numbers(2383), 0
	for range 60 {
		d, l := twoStates(t, &r, 30)
		want := toldAll([]api.Super{l[0].s, l[1].s})
		one, e := commit.Candidates(d)
		equal(t, "Candidates", e, 0)
		other, e := commit.Candidates(d)
		equal(t, "Candidates", e, 0)
		spoil(one[0].Roots)
		equal(t, "the other one of the same answer", told(one[1]), want[1])
		spoil(one[1].Roots)
		one = one[:cap(one)]
		clear(one)
		equalLists(t, "another answer", toldAll(other), want)
		spoil(other[1].Roots)
		equal(t, "the other one of the same answer", told(other[0]), want[0])
		candidates(t, d, l[0].s, l[1].s)
		if len(l[0].s.Roots) > 1 && len(l[1].s.Roots) > 1 {
			many++
		}
	}
	equal(t, "many had roots", many > 20, true)
}

// P23.8: so are what Open and Format tell: neither hangs on the disk, nor on another answer.
func TestP23_8Open(t *testing.T) {
	t.Parallel()
	r := draw.Numbers(2384)
	for range 30 {
		d, l := twoStates(t, &r, 40)
		s, v, e := commit.Open(d)
		equal(t, "Open", e, 0)
		again, other, e := commit.Open(d)
		equal(t, "Open", e, 0)
		spoil(s.Roots)
		equal(t, "another superblock", told(again), told(l[0].s))
		for _, p := range v.Pages(held) {
			spoilPage(p)
		}
		l[0].isIn(t, v)
		for _, x := range l[0].s.Roots {
			if x.Tree.Root != 0 {
				v.Drop(x.Tree.Root)
			}
		}
		v.Make(leaf("a"))
		v.Settle()
		l[0].isIn(t, other)
		l[0].opens(t, d)
		for at := range d.Blocks() {
			written(t, d, at, anyBytes(&r))
		}
		l[0].isIn(t, other)
	}
	d, s, v := formatted(t, exampleConfig)
	_, _, other := formatted(t, exampleConfig)
	s.Roots = append(s.Roots, mark)
	v.Make(leaf("a"))
	v.Settle()
	equal(t, "free pages of another vault", other.Tally(free), 5)
	isNew(t, opens(t, d, api.Super{Config: exampleConfig, Next: 1}), exampleConfig)
}

// R3: nil and an empty list are the same, and so is one with spare room.
func TestR3Lists(t *testing.T) {
	var want []byte
	for _, none := range [][]api.Root{nil, {}, roomy(nil)} {
		d, _, v := formatted(t, exampleConfig)
		s := api.Super{Gen: 1, Config: exampleConfig, Next: 7, Roots: none}
		equal(t, "Write", write(t, d, s, v), 0)
		opens(t, d, s)
		if want == nil {
			want = d.Image()
		}
		equal(t, "what lasts is alike", bytes.Equal(d.Image(), want), true)
	}
}

// R5: the same row of calls lets the same lie on a disk, and answers the same.
func TestR5TheSame(t *testing.T) {
	t.Parallel()
	lived := func(from int) (*disk.Disk, string) {
		r := draw.Numbers(2385 + from)
		d, w := newWood(t, &r, someConfig(&r, 60))
		last, text := state{w.s, grove.StoreFrom(w.v), w.family.copy()}, ""
		for range 10 {
			w.steps(8)
			what := ""
			last, what = w.goOn(t, d, last)
			l, e := commit.Candidates(d)
			text += fmt.Sprint(what, toldAll(l), int(e), toldOpen(d))
		}
		return d, text
	}
	for from := range 12 {
		d, text := lived(from)
		for range 3 {
			other, again := lived(from)
			equal(t, "what was answered", again, text)
			same(t, "the disk", other, d)
		}
	}
}

// R5 and P23.5: asked by several at a time, whoever else asks.
func TestR5AtTheSameTime(t *testing.T) {
	t.Parallel()
	r := draw.Numbers(2386)
	for range 10 {
		d := someDisk(t, &r, someConfig(&r, 60)).disk(t)
		asked := func() string {
			l, e := commit.Candidates(d)
			return fmt.Sprint(toldAll(l), int(e), toldOpen(d))
		}
		want := asked()
		var all sync.WaitGroup
		for range 6 {
			all.Go(func() {
				for range 3 {
					if got := asked(); got != want {
						t.Errorf("%s, want %s", got, want)
					}
				}
			})
		}
		all.Wait()
	}
}

// Two forests on two disks know nothing of one another.
func TestR5TwoDisks(t *testing.T) {
	t.Parallel()
	r := draw.Numbers(2387)
	c := someConfig(&r, 30)
	one, w := newWood(t, &r, c)
	other, u := newWood(t, &r, c)
	for range 10 {
		w.steps(5)
		u.steps(5)
		x, y := w.lasting(), u.lasting()
		u.write(t, other)
		w.write(t, one)
		x.opens(t, one)
		y.opens(t, other)
	}
}
