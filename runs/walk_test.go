package runs_test

import (
	"iter"
	"slices"
	"sync"
	"testing"

	"coppice/draw"
	"coppice/runs"
)

func TestP5_4Walks(t *testing.T) { each(t, kind.walks) }

// walks goes over sets with numbers at both ends: left at each number, and again.
func (o of[T]) walks(t *testing.T) {
	a, z := o.least, o.greatest
	for _, l := range [][]runs.Run[T]{
		nil, pairs(a, a), pairs(z, z), pairs(a, a+4), pairs(z-4, z), pairs(a, a+1, z-1, z), pairs(a, a, z, z),
		pairs(a+1, a+2, z-2, z-1), pairs(a, a, a+2, a+2, z-2, z-2, z, z), pairs(a+9, a+15),
	} {
		s := runs.Of(l...)
		walk := s.All()
		if walk == nil {
			t.Fatal("All() is nil")
		}
		want := numbers(l, 100)
		for n := range want {
			if seen := firstOf(walk, n+1); !slices.Equal(seen, want[:n+1]) {
				t.Errorf("%v.All(), left behind %d numbers: %v", l, n+1, seen)
			}
			stopped(t, walk, want[:n+1])
		}
		for range 3 {
			if seen := slices.Collect(walk); !slices.Equal(seen, want) {
				t.Errorf("%v.All(): %v", l, seen)
			}
		}
		checkRuns(t, s, l)
	}
	all := runs.Of(pairs(a, z)...)
	if seen := firstOf(all.All(), 3); !slices.Equal(seen, []T{a, a + 1, a + 2}) {
		t.Errorf("All() of all numbers begins with %v", seen)
	}
	if all.Len() <= 1<<16 {
		if seen := slices.Collect(all.All()); !slices.Equal(seen, numbers(pairs(a, z), 1<<17)) {
			t.Errorf("All() of all numbers has %d of them", len(seen))
		}
	}
}

// stopped stops a walk at the last one of these: nothing may be told behind it.
func stopped[T runs.Whole](t *testing.T, walk iter.Seq[T], want []T) {
	t.Helper()
	var seen []T
	walk(func(x T) bool {
		seen = append(seen, x)
		return len(seen) < len(want)
	})
	if !slices.Equal(seen, want) {
		t.Errorf("stopped at %d: %v", want[len(want)-1], seen)
	}
}

func TestP5_4ChangedSince(t *testing.T) {
	l := pairs[int8](-128, -127, 1, 3, 7, 7, 126, 127)
	want := numbers(l, 100)
	for _, r := range pairs[int8](-128, 127, 2, 2, 1, 3, -128, -128, 127, 127, 4, 6, 3, 8, 100, 100, -126, 125, -100, 2, 9, 7) {
		for _, in := range []bool{true, false} {
			s := runs.Of(l...)
			walk := s.All()
			m := modelOf(of[int8]{-128, 127}, l)
			m.do(t, s, step[int8]{r, in})
			later := s.All()
			m.do(t, s, step[int8]{pairs[int8](0, 9)[0], !in})
			for range 2 {
				if seen := slices.Collect(walk); !slices.Equal(seen, want) {
					t.Errorf("All() asked for ahead of a change: %v", seen)
				}
			}
			between := modelOf(of[int8]{-128, 127}, l)
			between.steps = append(between.steps, step[int8]{r, in})
			if seen := slices.Collect(later); !slices.Equal(seen, numbers(between.runs(), 256)) {
				t.Errorf("All() asked for between two changes: %v", seen)
			}
			m.check(t, s)
		}
	}
}

func TestP5_4ChangedInItsMidst(t *testing.T) {
	l := pairs[int16](-32768, -32767, 1, 3, 7, 7, 32766, 32767)
	want := numbers(l, 100)
	r := draw.Numbers(54)
	o := of[int16]{-32768, 32767}
	for range 100 {
		s, m := runs.Of(l...), modelOf(o, l)
		var seen []int16
		for x := range s.All() {
			seen = append(seen, x)
			m.do(t, s, step[int16]{o.someRun(&r), r.Below(2) == 0})
			m.do(t, s, step[int16]{runs.Run[int16]{Lo: x, Hi: x}, false})
			if s.Has(x) {
				t.Fatalf("Has(%d) behind its Remove", x)
			}
		}
		if !slices.Equal(seen, want) {
			t.Errorf("All(), with changes in its midst: %v", seen)
		}
	}
}

func TestP5_4WalkChangesNothing(t *testing.T) {
	l := pairs[int](1, 3, 5, 9)
	s := runs.Of(l...)
	walk := s.All()
	for range walk {
		checkRuns(t, s, l)
	}
	for range s.All() {
		break
	}
	checkRuns(t, s, l)
	if n := s.Add(4, 4); n != 1 {
		t.Errorf("Add behind a walk = %d", n)
	}
	checkRuns(t, s, pairs[int](1, 9))
}

func TestP5_4SeveralAtATime(t *testing.T) {
	l := pairs[uint8](0, 4, 9, 9, 250, 255)
	s := runs.Of(l...)
	want := numbers(l, 100)
	walk := s.All()
	var outer []uint8
	for x := range walk {
		outer = append(outer, x)
		if seen := slices.Collect(walk); !slices.Equal(seen, want) {
			t.Errorf("a walk inside of itself: %v", seen)
		}
		s.Remove(x, x)
	}
	if !slices.Equal(outer, want) {
		t.Errorf("a walk with itself inside: %v", outer)
	}
	next, stop := iter.Pull(walk)
	defer stop()
	other, stopOther := iter.Pull(walk)
	defer stopOther()
	for _, x := range want {
		a, isA := next()
		b, isB := other()
		if a != x || b != x || !isA || !isB {
			t.Errorf("two walks side by side: %d and %d at %d", a, b, x)
		}
	}
	var group sync.WaitGroup
	lists := make([][]uint8, 8)
	for i := range lists {
		group.Go(func() { lists[i] = slices.Collect(walk) })
	}
	s.Add(20, 30)
	group.Wait()
	for _, seen := range lists {
		if !slices.Equal(seen, want) {
			t.Errorf("one of several walks at a time: %v", seen)
		}
	}
}
