package runs_test

import (
	"slices"
	"testing"

	"coppice/runs"
)

func TestP5_7Memory(t *testing.T) { each(t, kind.memory) }

// roomy is the list with spare room behind it, and all of it as it was.
func roomy[E any](l []E, spare ...E) (short, whole, before []E) {
	whole = slices.Concat(l, spare)
	return whole[:len(l)], whole, slices.Clone(whole)
}

// memory hands lists in and out, and writes over them, their spare room too.
func (o of[T]) memory(t *testing.T) {
	o.handedToNew(t)
	o.handedToOf(t)
	for _, l := range [][]runs.Run[T]{nil, pairs[T](3, 5), pairs(o.least, o.least+2, 9, 9, o.greatest-3, o.greatest), pairs(o.least, o.greatest)} {
		o.handedOut(t, l)
	}
}

func (o of[T]) handedToNew(t *testing.T) {
	l, whole, before := roomy([]T{9, 5, 7, 6, 5, 11}, 8, 9, 10)
	s := runs.New(l...)
	checkSpoiled(t, s, whole, before, pairs[T](5, 7, 9, 9, 11, 11))
}

func (o of[T]) handedToOf(t *testing.T) {
	for _, c := range []struct{ l, want []runs.Run[T] }{
		{pairs[T](5, 7), pairs[T](5, 7)},
		{pairs[T](5, 7, 9, 9, 11, 12), pairs[T](5, 7, 9, 9, 11, 12)},
		{pairs[T](11, 12, 9, 9, 5, 7, 5, 6), pairs[T](5, 7, 9, 9, 11, 12)},
		{pairs[T](9, 9, 8, 7, 5, 6, 8, 8), pairs[T](5, 6, 8, 9)},
		{pairs[T](8, 7), nil},
		{nil, nil},
	} {
		l, whole, before := roomy(c.l, pairs[T](20, 30, 7, 3, 4, 4)...)
		s := runs.Of(l...)
		checkSpoiled(t, s, whole, before, c.want)
	}
}

// checkSpoiled goes on with a set made of a list, writes over that list, and
// looks whether either sees the other.
func checkSpoiled[E comparable, T runs.Whole](t *testing.T, s *runs.Set[T], whole, before []E, want []runs.Run[T]) {
	t.Helper()
	u := s.Copy()
	u.Add(40, 50)
	u.Remove(5, 5)
	u.Remove(0, 60)
	if !slices.Equal(whole, before) {
		t.Fatalf("what was handed in is changed: %v, and then %v", before, whole)
	}
	walk := s.All()
	clear(whole)
	checkRuns(t, s, want)
	if seen := slices.Collect(walk); !slices.Equal(seen, numbers(want, 100)) {
		t.Fatalf("All() behind a change of what was handed in: %v", seen)
	}
	s.Add(40, 50)
	s.Add(0, 1)
	s.Remove(6, 6)
	s.Remove(0, 60)
	if slices.ContainsFunc(whole, func(x E) bool { return x != *new(E) }) {
		t.Fatalf("what is done to the set is written into what was handed in: %v", whole)
	}
}

func (o of[T]) handedOut(t *testing.T, l []runs.Run[T]) {
	s := runs.Of(l...)
	walk, u := s.All(), s.Copy()
	a, b, c := s.Runs(), s.Runs(), u.Runs()
	spoil(a)
	if !slices.Equal(b, l) || !slices.Equal(c, l) {
		t.Fatalf("two answers of Runs share memory: %v", l)
	}
	spoil(c)
	checkRuns(t, s, l)
	checkRuns(t, u, l)
	if seen := firstOf(walk, 20); !slices.Equal(seen, numbers(l, 20)) {
		t.Fatalf("All() behind a change of what Runs answered: %v", seen)
	}
	// What is done to the set is not written into what it answered, and what is
	// written there later is not seen by the set.
	b = b[:cap(b)]
	before := slices.Clone(b)
	for _, r := range pairs(o.least, o.least, 4, 4, 20, 21, o.greatest, o.greatest, o.least, o.greatest) {
		s.Remove(r.Lo, r.Hi)
		s.Add(r.Lo, r.Hi)
		s.Remove(r.Lo, r.Hi)
	}
	if !slices.Equal(b, before) {
		t.Fatalf("what is done to a set is written into what Runs answered: %v", b)
	}
	spoil(b)
	checkRuns(t, s, nil)
	checkRuns(t, u, l)
}

// spoil writes over a list and over its spare room.
func spoil[T runs.Whole](l []runs.Run[T]) {
	l = l[:cap(l)]
	for i := range l {
		l[i] = runs.Run[T]{Lo: 77, Hi: 33}
	}
}

// What a set answers does not hang on how much spare room a list has.
func TestR5SpareRoomDoesNotMatter(t *testing.T) {
	l := pairs[uint16](9, 12, 1, 3, 65535, 65535, 4, 4)
	short, _, _ := roomy(l, pairs[uint16](20, 30)...)
	same(t, runs.Of(short...), runs.Of(slices.Clip(l)...), true)
	s, u := runs.Of(l...), runs.New[uint16]()
	for _, x := range slices.Backward(l) {
		u.Add(x.Lo, x.Hi)
	}
	for _, r := range pairs[uint16](0, 0, 2, 2, 5, 8, 10, 65535, 0, 65535) {
		if a, b := s.Add(r.Lo, r.Hi), u.Add(r.Lo, r.Hi); a != b {
			t.Errorf("Add(%d, %d) = %d and %d", r.Lo, r.Hi, a, b)
		}
		same(t, s, u, true)
	}
}
