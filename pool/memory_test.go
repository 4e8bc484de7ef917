package pool_test

import (
	"iter"
	"slices"
	"sync"
	"testing"
)

// roomy is the list with spare room behind it, and all of it as it was.
func roomy(l []int, spare ...int) (short, whole, before []int) {
	whole = slices.Concat(l, spare)
	return whole[:len(l)], whole, slices.Clone(whole)
}

// What Load is handed is neither kept nor changed, its spare room included.
func TestR4LoadKeepsACopy(t *testing.T) {
	l, whole, before := roomy([]int{1, 0, 2, 0}, 7, 8, 9)
	p := load(t, 3, l...)
	alloc(t, p, 2, 0)
	inc(t, p, 1, 0)
	dec(t, p, 3, 1, 0)
	p.Settle()
	dec(t, p, 1, 1, 0)
	p.Undo(3)
	equalLists(t, "what was handed in", whole, before)
	seen := look(p)
	for i := range whole {
		whole[i] = 99
	}
	equal(t, "behind writing over it", look(p), seen)
	alloc(t, p, 4, 0)
	p.Undo(3)
	equal(t, "behind writing over it", look(p), seen)
	refusedLoad(t, 3, whole, errRefs)
	for _, x := range whole {
		equal(t, "what was handed in", x, 99)
	}
}

// Counts is new memory each time, its spare room included.
func TestR4CountsIsNewMemory(t *testing.T) {
	p := load(t, 3, 1, 0, 2, 0)
	alloc(t, p, 2, 0)
	seen := look(p)
	a, b := p.Counts(), p.Counts()
	spoil(a)
	equalLists(t, "another answer", b, []int{1, 1, 2, 0})
	equal(t, "the pool", look(p), seen)
	b = b[:cap(b)]
	before := slices.Clone(b)
	alloc(t, p, 4, 0)
	inc(t, p, 1, 0)
	p.Settle()
	dec(t, p, 3, 1, 0)
	p.Undo(3)
	equalLists(t, "what was answered before", b, before)
	spoil(b)
	equalLists(t, "Counts", p.Counts(), []int{2, 1, 2, 1})
}

func spoil(l []int) {
	l = l[:cap(l)]
	for i := range l {
		l[i] = -77
	}
}

// What Load answers does not hang on spare room, nor on whether a list is nil.
func TestR5SpareRoomDoesNotMatter(t *testing.T) {
	l := []int{1, 0, 2, 0}
	short, _, _ := roomy(l, 1, 1, 1)
	p, q := load(t, 2, short...), load(t, 2, slices.Clip(l)...)
	equal(t, "two alike", look(p), look(q))
	alloc(t, p, 2, 0)
	alloc(t, p, 4, 0)
	alloc(t, p, 0, errSpace)
	refusedLoad(t, 2, short[:0], errArg)
}

// A walk goes over what there was when it was asked for, each time anew.
func TestR6WalkSeesWhatThereWas(t *testing.T) {
	p := load(t, 3, 1, 0, 2, 0, 1, 0)
	dec(t, p, 5, 0, 0)
	alloc(t, p, 2, 0)
	walks := map[int]iter.Seq[int]{}
	want := map[int][]int{free: {4, 6}, pending: {5}, fresh: {2}, held: {1, 3}, 0: nil, 5: nil}
	for state := range want {
		walks[state] = p.Pages(state)
	}
	for _, c := range []call{{"look", 0}, {"Alloc", 0}, {"Alloc", 0}, {"Dec", 1}, {"Dec", 3}, {"Dec", 3}, {"Undo", 3}, {"Settle", 0}, {"Alloc", 0}, {"Dec", 2}, {"Settle", 0}} {
		c.on(p)
		for state, walk := range walks {
			for range 2 {
				equalLists(t, "walk", slices.Collect(walk), want[state])
			}
		}
	}
}

// A walk that is left in the middle, and gone over once more.
func TestR6WalkIsLeft(t *testing.T) {
	p := newPool(t, 6, 2)
	alloc(t, p, 1, 0)
	walk := p.Pages(free)
	for stop := range 6 {
		var l []int
		for n := range walk {
			l = append(l, n)
			if len(l) > stop {
				break
			}
		}
		equalLists(t, "left", l, []int{2, 3, 4, 5, 6}[:min(stop+1, 5)])
	}
	equalLists(t, "whole", slices.Collect(walk), []int{2, 3, 4, 5, 6})
	next, leave := iter.Pull(walk)
	defer leave()
	n, is := next()
	equal(t, "pulled", n, 2)
	for m := range walk { // one walk inside of another one
		if m == 3 {
			n, is = next()
		}
	}
	equal(t, "pulled", n, 3)
	equal(t, "pulled", is, true)
}

// What is done to the pool inside of a walk is not seen by it.
func TestR6ChangesInsideOfAWalk(t *testing.T) {
	p := newPool(t, 5, 2)
	var l []int
	for n := range p.Pages(free) {
		l = append(l, n)
		alloc(t, p, n, 0)
		if n == 3 {
			p.Settle()
			dec(t, p, 1, 0, 0)
		}
	}
	equalLists(t, "walk", l, []int{1, 2, 3, 4, 5})
	equalLists(t, "states", states(p), []int{pending, held, held, fresh, fresh})
	for n := range p.Pages(fresh) {
		dec(t, p, n, 0, 0)
	}
	equalLists(t, "states", states(p), []int{pending, held, held, free, free})
}

// A walk by several at a time.
func TestR6SeveralAtATime(t *testing.T) {
	p := load(t, 3, 1, 0, 2, 0, 1, 0)
	walks := []iter.Seq[int]{p.Pages(free), p.Pages(held), p.Pages(pending)}
	want := [][]int{{2, 4, 6}, {1, 3, 5}, nil}
	var all sync.WaitGroup
	wrong := make([]bool, 12)
	for i := range wrong {
		all.Add(1)
		go func() {
			defer all.Done()
			for range 50 {
				k := i % len(walks)
				wrong[i] = wrong[i] || !slices.Equal(slices.Collect(walks[k]), want[k])
			}
		}()
	}
	for range 50 {
		p.Alloc()
		p.Dec(1)
		p.Undo(0)
	}
	all.Wait()
	equal(t, "a wrong walk", slices.Contains(wrong, true), false)
}
