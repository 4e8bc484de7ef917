package fsck_test

import (
	"fmt"
	"slices"
	"sync"
	"testing"

	"coppice/api"
	"coppice/draw"
	"coppice/fsck"
	"coppice/grove"
)

// spare is how many roots fit behind a roomy list, each of them this one.
const spare = 9

var mark = api.Root{Id: -5, Tree: tree(-7, -8, -9)}

// roomy is the list with spare room behind it, all of it marked.
func roomy(l []api.Root) []api.Root {
	return append(slices.Clone(l), slices.Repeat([]api.Root{mark}, spare)...)[:len(l)]
}

// untouched: are a roomy list and its spare room as they were?
func untouched(l, was []api.Root) bool {
	return slices.Equal(l, was) && slices.Equal(l[len(l):len(l)+spare], slices.Repeat([]api.Root{mark}, spare))
}

// spoil writes over all of a list of roots, its spare room too.
func spoil(l []api.Root) {
	l = l[:cap(l)]
	for k := range l {
		l[k] = api.Root{Id: 1, Tree: tree(1, 1, 1)}
	}
}

// turn writes over all of a list, its spare room too.
func turn(l []int) {
	l = l[:cap(l)]
	for k := range l {
		l[k] = -1 - k
	}
}

// R4: the roots that are handed in are neither changed nor kept, their spare room included.
func TestR4Roots(t *testing.T) {
	t.Parallel()
	r := draw.Numbers(851)
	for range 60 {
		f, w := someLying(t, &r, 80, 15)
		d := f.disk(t)
		if r.Below(3) == 0 { // refused, too
			at := f.own(w.v.Counts())[0]
			written(t, d, at, make([]byte, blockSize))
		}
		was := slices.Clone(f.s.Roots)
		given := roomy(was)
		report, e := fsck.Whole(w.v, given)
		equal(t, "Whole", e, 0)
		equal(t, "Whole: what was handed in", untouched(given, was), true)
		s := f.s
		s.Roots = given
		v, loaded, e := fsck.Load(d, s)
		equal(t, "Load: what was handed in", untouched(given, was), true)
		l, f2 := fsck.Bad(d, s)
		equal(t, "Bad: what was handed in", untouched(given, was), true)
		equal(t, "either whole or bad", (e == 0) != (len(l) > 0) && f2 == 0, true)
		spoil(given)
		equal(t, "Whole once more", told(report), told(w.stands(t)))
		if e == 0 {
			equal(t, "Load's report", told(loaded), told(report))
			lasts(t, v, w.v)
		}
	}
}

// R4: a vault that was loaded hangs neither on the disk nor on another one that was loaded.
func TestR4Vaults(t *testing.T) {
	t.Parallel()
	r := draw.Numbers(852)
	for range 30 {
		f, w := someLying(t, &r, 80, 15)
		d := f.disk(t)
		one, _, e := fsck.Load(d, f.s)
		equal(t, "Load", e, 0)
		other, _, e := fsck.Load(d, f.s)
		equal(t, "Load", e, 0)
		for at := range f.blocks {
			written(t, d, at, r.Bytes(blockSize))
		}
		lasts(t, one, w.v)
		x := &wood{one, slices.Clone(w.trees), w.keys, &r, met{}}
		for range 12 {
			x.step()
		}
		for _, p := range one.Pages(held) {
			for _, i := range p.Items {
				clear(i.Key)
				clear(i.Value)
			}
			clear(p.Data)
		}
		x.stands(t)
		lasts(t, other, w.v)
	}
}

// R4: what is told is new memory each time.
func TestR4Answers(t *testing.T) {
	t.Parallel()
	r, some := draw.Numbers(853), 0
	for range 300 {
		f := wild(t, &r)
		d := f.disk(t)
		first, _ := bad(t, d, f.s)
		second, _ := bad(t, d, f.s)
		was := slices.Clone(second)
		turn(first)
		equalLists(t, "another answer", second, was)
		third, _ := bad(t, d, f.s)
		equalLists(t, "behind writing over an answer", third, was)
		some += len(was)
	}
	equal(t, "many were bad", some > 300, true)
	x := newSmall(t)
	_, one, _ := fsck.Load(x.disk(t), x.s)
	one.Bad = append(one.Bad, 7)
	_, other, _ := fsck.Load(x.disk(t), x.s)
	equal(t, "Bad of another report", len(other.Bad), 0)
}

// R3: nil and an empty list are the same, and so is one with spare room.
func TestR3Lists(t *testing.T) {
	r := draw.Numbers(854)
	v := newVault(t, 30, 3)
	full, x := example(t)
	for _, none := range [][]api.Root{nil, {}, roomy(nil)} {
		report, e := whole(t, v, none)
		equal(t, "Whole of no roots", fmt.Sprint(told(report), e), fmt.Sprint(nothing, api.OK))
		_, e = whole(t, full, none)
		equal(t, "Whole of no roots, where a tree stands", e, errCorrupt)
		f := lay(t, &r, v, nil)
		f.s.Roots = none
		tells(t, "no roots", f.disk(t), f.s, 0)
		f = lay(t, &r, full, []api.Tree{x})
		f.s.Roots = none
		tells(t, "no roots, where a tree lies", f.disk(t), f.s, errCorrupt)
	}
	report, e := whole(t, full, roomy(roots(x)))
	equal(t, "Whole of a list with spare room", fmt.Sprint(report.Trees, e), fmt.Sprint(1, api.OK))
}

// R5: the same is answered each time, whoever else asks.
func TestR5TheSame(t *testing.T) {
	t.Parallel()
	r := draw.Numbers(855)
	for range 12 {
		f, w := someLying(t, &r, 200, 20)
		d := f.disk(t)
		if r.Below(2) == 0 {
			at := r.Below(len(f.blocks))
			written(t, d, at, make([]byte, blockSize))
		}
		asked := func() string {
			v, report, e := fsck.Load(d, f.s)
			l, f := fsck.Bad(d, f.s)
			text := fmt.Sprint(told(report), e, l, f)
			if v != nil {
				text += fmt.Sprint(v.Counts(), grove.StoreFrom(v).Differs(v))
			}
			return text
		}
		want, wantWhole := asked(), told(w.stands(t))
		var all sync.WaitGroup
		for range 6 {
			all.Go(func() {
				for range 4 {
					if got := asked(); got != want {
						t.Errorf("%s, want %s", got, want)
					}
				}
			})
		}
		all.Wait()
		for range 3 {
			equal(t, "Whole", told(w.stands(t)), wantWhole)
		}
	}
}
