package runs_test

import (
	"math/bits"
	"slices"
	"testing"

	"coppice/draw"
	"coppice/runs"
)

// answer holds one answer of the chapter's table against what there was.
func answer[E comparable](t *testing.T, call string, got, want E) {
	t.Helper()
	if got != want {
		t.Errorf("%s = %v, want %v", call, got, want)
	}
}

func TestExamples(t *testing.T) {
	s := runs.New[int8](5, 3, 4, 9, 5)
	checkRuns(t, s, pairs[int8](3, 5, 9, 9))
	answer(t, "Len()", s.Len(), 4)
	answer(t, "Add(6, 8)", s.Add(6, 8), 3)
	checkRuns(t, s, pairs[int8](3, 9))
	answer(t, "Add(4, 9)", s.Add(4, 9), 0)
	answer(t, "Remove(5, 6)", s.Remove(5, 6), 2)
	checkRuns(t, s, pairs[int8](3, 4, 7, 9))
	answer(t, "Has(5)", s.Has(5), false)
	answer(t, "Has(7)", s.Has(7), true)
	answer(t, "Add(9, 7)", s.Add(9, 7), 0)
	answer(t, "Remove(100, 120)", s.Remove(100, 120), 0)
	checkRuns(t, s, pairs[int8](3, 4, 7, 9))
	answer(t, "Add(127, 127)", s.Add(127, 127), 1)
	answer(t, "Add(-128, -128)", s.Add(-128, -128), 1)
	checkRuns(t, s, pairs[int8](-128, -128, 3, 4, 7, 9, 127, 127))
	if l := firstOf(s.All(), 3); !slices.Equal(l, []int8{-128, 3, 4}) {
		t.Errorf("All, left behind the third number: %v", l)
	}
	answer(t, "Add(-128, 127)", s.Add(-128, 127), 249)
	answer(t, "Len()", s.Len(), 256)
	checkRuns(t, s, pairs[int8](-128, 127))
	answer(t, "Remove(-128, 127)", s.Remove(-128, 127), 256)
	answer(t, "Len()", s.Len(), 0)
	x, is := s.Lowest()
	answer(t, "Lowest()", x, 0)
	answer(t, "Lowest()", is, false)
	checkRuns(t, s, nil)
	answer(t, "Same", runs.Of(pairs[int8](1, 3, 4, 4, 9, 8)...).Same(runs.New[int8](4, 3, 2, 1)), true)
	answer(t, "New(1).Same(nil)", runs.New[int8](1).Same(nil), false)
	answer(t, "New().Same(nil)", runs.New[int8]().Same(nil), true)
	all := runs.Of(runs.Run[int]{Lo: -9223372036854775808, Hi: 9223372036854775807})
	answer(t, "Len() of all ints", all.Len(), 9223372036854775807)
	answer(t, "Add(0, 0) to all ints", all.Add(0, 0), 0)
}

func TestP5_1Nothing(t *testing.T) { each(t, kind.nothing) }

func (o of[T]) nothing(t *testing.T) {
	no := []runs.Run[T]{{Lo: 1, Hi: 0}, {Lo: o.greatest, Hi: o.least}, {Lo: o.greatest, Hi: o.greatest - 1}, {Lo: o.least + 1, Hi: o.least}}
	for _, s := range []*runs.Set[T]{
		runs.New[T](), runs.New([]T{}...), runs.New([]T(nil)...),
		runs.Of[T](), runs.Of([]runs.Run[T]{}...), runs.Of([]runs.Run[T](nil)...),
		runs.Of(no[0]), runs.Of(no...), runs.New[T]().Copy(), runs.Of(no...).Copy(),
	} {
		if s == nil {
			t.Fatal("no set")
		}
		m := &model[T]{of: o}
		m.check(t, s)
		same(t, s, runs.New[T](), true)
		if !s.Same(nil) {
			t.Error("a set without numbers is not as a nil one")
		}
		for _, x := range []T{0, 1, o.least, o.greatest} {
			if s.Has(x) {
				t.Errorf("Has(%d) of a set without numbers", x)
			}
		}
		for _, r := range no {
			m.do(t, s, step[T]{r, true})
			m.do(t, s, step[T]{r, false})
		}
		m.do(t, s, step[T]{runs.Run[T]{Lo: o.least, Hi: o.greatest}, false})
		m.do(t, s, step[T]{runs.Run[T]{Lo: o.least, Hi: o.greatest}, true})
	}
}

func TestP5_1NewAndOf(t *testing.T) { each(t, kind.newAndOf) }

func (o of[T]) newAndOf(t *testing.T) {
	turns([]T{5, 3, 4, 9, 5, o.least}, 0, func(l []T) {
		checkRuns(t, runs.New(l...), modelOf(o, pairs[T](3, 5, 9, 9, o.least, o.least)).runs())
	})
	turns([]T{o.greatest, o.greatest - 1, o.greatest, o.least, o.least + 1, o.greatest - 3}, 0, func(l []T) {
		checkRuns(t, runs.New(l...), pairs(o.least, o.least+1, o.greatest-3, o.greatest-3, o.greatest-1, o.greatest))
	})
	turns(pairs[T](11, 13, 14, 20, 12, 16, 12, 16, 30, 29, 40, 41), 0, func(l []runs.Run[T]) {
		checkRuns(t, runs.Of(l...), pairs[T](11, 20, 40, 41))
	})
	turns(pairs(o.least, o.least, o.greatest, o.greatest, o.least+2, o.greatest-2, 7, 9, o.greatest, o.least), 0, func(l []runs.Run[T]) {
		checkRuns(t, runs.Of(l...), pairs(o.least, o.least, o.least+2, o.greatest-2, o.greatest, o.greatest))
	})
	turns(pairs(o.least, 20, 21, 21, 22, o.greatest, 5, 50, 9, 8), 0, func(l []runs.Run[T]) {
		checkRuns(t, runs.Of(l...), pairs(o.least, o.greatest))
	})
	r := draw.Numbers(51)
	for range 500 {
		var l []runs.Run[T]
		var alone []T
		for range r.Below(9) {
			l = append(l, o.someRun(&r))
			alone = append(alone, o.some(&r))
		}
		modelOf(o, l).check(t, runs.Of(l...))
		l = l[:0]
		for _, x := range alone {
			l = append(l, runs.Run[T]{Lo: x, Hi: x})
		}
		modelOf(o, l).check(t, runs.New(alone...))
	}
}

// These runs lie to the runs 10 to 12, 20 to 22 and 30 to 32 in all ways.
func TestP5_2HowRunsLie(t *testing.T) {
	for _, c := range []struct {
		lo, hi  int8
		added   int
		with    []runs.Run[int8]
		removed int
		without []runs.Run[int8]
		how     string
	}{
		{5, 8, 4, pairs[int8](5, 8, 10, 12, 20, 22, 30, 32), 0, pairs[int8](10, 12, 20, 22, 30, 32), "apart, below all"},
		{40, 40, 1, pairs[int8](10, 12, 20, 22, 30, 32, 40, 40), 0, pairs[int8](10, 12, 20, 22, 30, 32), "apart, above all"},
		{14, 18, 5, pairs[int8](10, 12, 14, 18, 20, 22, 30, 32), 0, pairs[int8](10, 12, 20, 22, 30, 32), "apart, between two"},
		{5, 9, 5, pairs[int8](5, 12, 20, 22, 30, 32), 0, pairs[int8](10, 12, 20, 22, 30, 32), "touching the first"},
		{33, 40, 8, pairs[int8](10, 12, 20, 22, 30, 40), 0, pairs[int8](10, 12, 20, 22, 30, 32), "touching the last"},
		{13, 15, 3, pairs[int8](10, 15, 20, 22, 30, 32), 0, pairs[int8](10, 12, 20, 22, 30, 32), "touching the one below"},
		{15, 19, 5, pairs[int8](10, 12, 15, 22, 30, 32), 0, pairs[int8](10, 12, 20, 22, 30, 32), "touching the one above"},
		{13, 19, 7, pairs[int8](10, 22, 30, 32), 0, pairs[int8](10, 12, 20, 22, 30, 32), "touching both"},
		{20, 22, 0, pairs[int8](10, 12, 20, 22, 30, 32), 3, pairs[int8](10, 12, 30, 32), "the same"},
		{21, 21, 0, pairs[int8](10, 12, 20, 22, 30, 32), 1, pairs[int8](10, 12, 20, 20, 22, 22, 30, 32), "in one"},
		{20, 21, 0, pairs[int8](10, 12, 20, 22, 30, 32), 2, pairs[int8](10, 12, 22, 22, 30, 32), "in one, at its beginning"},
		{21, 22, 0, pairs[int8](10, 12, 20, 22, 30, 32), 2, pairs[int8](10, 12, 20, 20, 30, 32), "in one, at its end"},
		{18, 24, 4, pairs[int8](10, 12, 18, 24, 30, 32), 3, pairs[int8](10, 12, 30, 32), "holding one"},
		{20, 24, 2, pairs[int8](10, 12, 20, 24, 30, 32), 3, pairs[int8](10, 12, 30, 32), "beginning with one"},
		{18, 22, 2, pairs[int8](10, 12, 18, 22, 30, 32), 3, pairs[int8](10, 12, 30, 32), "ending with one"},
		{18, 20, 2, pairs[int8](10, 12, 18, 22, 30, 32), 1, pairs[int8](10, 12, 21, 22, 30, 32), "over the beginning of one"},
		{22, 24, 2, pairs[int8](10, 12, 20, 24, 30, 32), 1, pairs[int8](10, 12, 20, 21, 30, 32), "over the end of one"},
		{11, 31, 14, pairs[int8](10, 32), 7, pairs[int8](10, 10, 32, 32), "over all three"},
		{9, 33, 16, pairs[int8](9, 33), 9, nil, "holding all three"},
		{13, 29, 14, pairs[int8](10, 32), 3, pairs[int8](10, 12, 30, 32), "holding one and touching two"},
		{12, 20, 7, pairs[int8](10, 22, 30, 32), 2, pairs[int8](10, 11, 21, 22, 30, 32), "over two ends"},
		{22, 20, 0, pairs[int8](10, 12, 20, 22, 30, 32), 0, pairs[int8](10, 12, 20, 22, 30, 32), "of no number, in one"},
		{20, 12, 0, pairs[int8](10, 12, 20, 22, 30, 32), 0, pairs[int8](10, 12, 20, 22, 30, 32), "of no number, between two"},
		{19, 13, 0, pairs[int8](10, 12, 20, 22, 30, 32), 0, pairs[int8](10, 12, 20, 22, 30, 32), "of no number, touching two"},
		{31, 11, 0, pairs[int8](10, 12, 20, 22, 30, 32), 0, pairs[int8](10, 12, 20, 22, 30, 32), "of no number, over all three"},
		{127, -128, 0, pairs[int8](10, 12, 20, 22, 30, 32), 0, pairs[int8](10, 12, 20, 22, 30, 32), "of no number, from end to end"},
		{-128, 127, 247, pairs[int8](-128, 127), 9, nil, "all numbers"},
	} {
		t.Run(c.how, func(t *testing.T) {
			three := pairs[int8](10, 12, 20, 22, 30, 32)
			s := runs.Of(three...)
			answer(t, "Add", s.Add(c.lo, c.hi), c.added)
			checkRuns(t, s, c.with)
			answer(t, "Add once more", s.Add(c.lo, c.hi), 0)
			checkRuns(t, s, c.with)
			s = runs.Of(three...)
			answer(t, "Remove", s.Remove(c.lo, c.hi), c.removed)
			checkRuns(t, s, c.without)
			answer(t, "Remove once more", s.Remove(c.lo, c.hi), 0)
			checkRuns(t, s, c.without)
		})
	}
}

func TestP5_2Ends(t *testing.T) { each(t, kind.ends) }

func (o of[T]) ends(t *testing.T) {
	a, z := o.least, o.greatest
	var steps []step[T]
	for _, r := range pairs(a, a, z, z, z-1, z-1, a+1, a+1, a+2, z-2, a, z, z, a) {
		steps = append(steps, step[T]{r, true})
	}
	for _, r := range pairs(a, a, z, z, a+1, a+1, z-1, z-1, z, a, a, z-3, a+3, z, a, z) {
		steps = append(steps, step[T]{r, false})
	}
	for i := range steps {
		for k := range steps {
			for n := range steps {
				m, s := &model[T]{of: o}, runs.New[T]()
				m.do(t, s, steps[i])
				m.do(t, s, steps[k])
				m.do(t, s, steps[n])
				m, s = modelOf(o, pairs(a, z)), runs.Of(pairs(a, z)...)
				m.do(t, s, steps[i])
				m.do(t, s, steps[k])
				m.do(t, s, steps[n])
			}
		}
	}
}

func TestP5_2SmallSets(t *testing.T) { each(t, kind.smallSets) }

// wide is how many numbers stand side by side in smallSets.
const wide = 6

// smallSets does each Add and each Remove to each set of few numbers that stand
// side by side, at both ends and elsewhere. The bits of a mask tell which.
func (o of[T]) smallSets(t *testing.T) {
	for _, first := range []T{o.least, o.greatest - (wide - 1), o.middle()} {
		for mask := range uint(1 << wide) {
			for i := range wide * wide {
				lo, hi := i/wide, i%wide
				run := uint(0)
				if lo <= hi {
					run = 1<<(hi+1) - 1<<lo
				}
				s := runs.Of(masked(first, mask)...)
				u := s.Copy()
				x, y := first+T(lo), first+T(hi)
				added, removed := s.Add(x, y), u.Remove(x, y)
				if added != bits.OnesCount(run&^mask) || removed != bits.OnesCount(run&mask) || added+removed != bits.OnesCount(run) {
					t.Fatalf("%v: Add(%d, %d) = %d, Remove %d", masked(first, mask), x, y, added, removed)
				}
				checkMask(t, s, first, mask|run)
				checkMask(t, u, first, mask&^run)
			}
		}
	}
}

// masked is the runs of a set of which a mask tells the numbers.
func masked[T runs.Whole](first T, mask uint) []runs.Run[T] {
	var l []runs.Run[T]
	for i := range wide {
		x := first + T(i)
		switch {
		case mask>>i&1 == 0:
		case i > 0 && mask>>(i-1)&1 == 1:
			l[len(l)-1].Hi = x
		default:
			l = append(l, runs.Run[T]{Lo: x, Hi: x})
		}
	}
	return l
}

func checkMask[T runs.Whole](t *testing.T, s *runs.Set[T], first T, mask uint) {
	t.Helper()
	checkRuns(t, s, masked(first, mask))
	for i := range wide {
		if x := first + T(i); s.Has(x) != (mask>>i&1 == 1) {
			t.Fatalf("%v.Has(%d) = %t", s.Runs(), x, s.Has(x))
		}
	}
}

func TestP5_2AndP5_3Scripts(t *testing.T) { each(t, kind.scripts) }

func (o of[T]) scripts(t *testing.T) {
	r := draw.Numbers(52)
	for range 300 {
		s, m := runs.New[T](), &model[T]{of: o}
		for range 25 {
			m.do(t, s, step[T]{o.someRun(&r), r.Below(2) == 0})
		}
	}
}

func TestP5_3HowMany(t *testing.T) {
	const low, high = -9223372036854775808, 9223372036854775807
	for _, c := range []struct {
		l []runs.Run[int]
		n int
	}{
		{pairs(low, high), high}, {pairs(low+1, high), high}, {pairs(low, high-1), high},
		{pairs(0, high), high}, {pairs(1, high), high}, {pairs(2, high), high - 1}, {pairs(1, high-1), high - 1},
		{pairs(-1, high), high}, {pairs(-1, high-1), high}, {pairs(-1, high-2), high}, {pairs(-1, high-3), high - 1},
		{pairs(low, -1), high}, {pairs(low, -2), high}, {pairs(low, -3), high - 1}, {pairs(low, 0), high}, {pairs(low+1, -1), high}, {pairs(low+2, -1), high - 1},
		{pairs(low, low, 1, high), high}, {pairs(low, low, 2, high), high}, {pairs(low, low, 3, high), high - 1},
		{pairs(low, low+9, 11, high), high}, {pairs(low, low+9, 12, high), high - 1},
		{pairs(low, -2, 0, 0), high}, {pairs(low, -3, 0, 0), high}, {pairs(low, -4, 0, 0), high - 1},
		{pairs(low, -1, 1, high), high}, {pairs(low, -2, 0, high), high}, {pairs(low, low, 0, 0, high, high), 3},
		{pairs(1, 1<<62, 1<<62+2, high), high - 1}, {pairs(0, 1<<62, 1<<62+2, high), high}, {pairs(-1, 1<<62, 1<<62+2, high), high},
	} {
		answer(t, "Len()", runs.Of(c.l...).Len(), c.n)
		// The set is what lies between the runs; a run from end to end meets them all.
		s := runs.Of(pairs(low, high)...)
		for _, r := range c.l {
			s.Remove(r.Lo, r.Hi)
		}
		answer(t, "Add", s.Add(low, high), c.n)
		checkRuns(t, s, pairs(low, high))
		s = runs.Of(c.l...)
		answer(t, "Remove", s.Remove(low, high), c.n)
		checkRuns(t, s, nil)
		if len(c.l) == 1 {
			s = runs.New[int]()
			answer(t, "Add", s.Add(c.l[0].Lo, c.l[0].Hi), c.n)
			s = runs.Of(pairs(low, high)...)
			answer(t, "Remove", s.Remove(c.l[0].Lo, c.l[0].Hi), c.n)
		}
	}
	answer(t, "Len() of all uint32", runs.Of(pairs[uint32](0, 1<<32-1)...).Len(), 1<<32)
	answer(t, "Add of all uint32", runs.New[uint32](7).Add(0, 1<<32-1), 1<<32-1)
	answer(t, "Remove of all int16", runs.Of(pairs[int16](-32768, 32767)...).Remove(-32768, 32767), 1<<16)
}

func TestP5_3ManyRuns(t *testing.T) {
	const n = 1 << 17
	var l []uint32
	for i := range uint32(n) {
		l = append(l, 3*i)
	}
	r := draw.Numbers(53)
	shuffle(&r, l)
	s := runs.New(l...)
	if s.Len() != n || len(s.Runs()) != n || !s.Has(3*(n-1)) || s.Has(3*(n-1)+1) {
		t.Fatalf("New of many numbers has %d of them in %d runs", s.Len(), len(s.Runs()))
	}
	u := runs.New[uint32]()
	for _, x := range l[:n/8] {
		if u.Add(x, x) != 1 || !u.Has(x) || u.Has(x+1) {
			t.Fatalf("Add(%d, %d)", x, x)
		}
	}
	for _, x := range l[:n/8] {
		if s.Remove(x, x) != 1 || s.Has(x) || s.Add(x, x+2) != 3 || s.Remove(x+1, x+2) != 2 {
			t.Fatalf("Remove and Add of %d", x)
		}
	}
	same(t, s, runs.New(l...), true)
	same(t, u, runs.New(l[:n/8]...), true)
	answer(t, "Add", s.Add(1, 3*n-1), 2*n)
	checkRuns(t, s, pairs[uint32](0, 3*n-1))
	answer(t, "Remove", u.Remove(0, 3*n), n/8)
	checkRuns(t, u, nil)
}
