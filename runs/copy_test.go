package runs_test

import (
	"math/big"
	"slices"
	"testing"

	"coppice/draw"
	"coppice/runs"
)

func TestP5_5Copies(t *testing.T) { each(t, kind.copies) }

// copies goes on with a set and with its Copy, each in its own way.
func (o of[T]) copies(t *testing.T) {
	r := draw.Numbers(55)
	for range 150 {
		s, m := runs.New[T](), &model[T]{of: o}
		for range r.Below(8) {
			m.do(t, s, step[T]{o.someRun(&r), r.Below(4) > 0})
		}
		u, n := s.Copy(), &model[T]{of: o, steps: slices.Clone(m.steps)}
		if u == s {
			t.Fatal("Copy is the set itself")
		}
		n.check(t, u)
		m.check(t, s)
		same(t, s, u, true)
		for range 8 {
			if r.Below(2) == 0 {
				m.do(t, s, step[T]{o.someRun(&r), r.Below(2) == 0})
			} else {
				n.do(t, u, step[T]{o.someRun(&r), r.Below(2) == 0})
			}
			n.check(t, u)
			m.check(t, s)
			same(t, s, u, slices.Equal(m.runs(), n.runs()))
		}
	}
}

// Each change is made where the list of runs could be written over in its place.
func TestP5_5CopyIsLeftAlone(t *testing.T) {
	l := pairs[int8](-128, -128, 10, 12, 20, 22, 30, 32, 127, 127)
	for _, r := range pairs[int8](-128, -128, 127, 127, 11, 11, 10, 12, 13, 19, 14, 15, 20, 20, 22, 22, 25, 25, 11, 31, -128, 127, 40, 40) {
		for _, in := range []bool{true, false} {
			for _, first := range []bool{true, false} {
				s := runs.Of(l...)
				s.Add(100, 101) // and there is spare room in its list
				s.Remove(100, 101)
				u := s.Copy()
				if !first {
					s, u = u, s
				}
				m := modelOf(of[int8]{-128, 127}, l)
				m.do(t, s, step[int8]{r, in})
				checkRuns(t, u, l)
				v := u.Copy().Copy()
				checkRuns(t, v, l)
				m.check(t, s)
			}
		}
	}
}

func TestP5_5Same(t *testing.T) {
	sets := [][]runs.Run[int16]{
		nil, pairs[int16](0, 0), pairs[int16](1, 1), pairs[int16](0, 1), pairs[int16](0, 2), pairs[int16](0, 0, 2, 2), pairs[int16](0, 0, 3, 3),
		pairs[int16](1, 2), pairs[int16](-32768, -32768), pairs[int16](32767, 32767), pairs[int16](-32768, -32768, 32767, 32767),
		pairs[int16](-32768, 32767), pairs[int16](-32768, 32766), pairs[int16](-32767, 32767), pairs[int16](-32768, 0, 2, 32767),
		pairs[int16](0, 0, 2, 2, 4, 4), pairs[int16](0, 0, 2, 2, 4, 5), pairs[int16](0, 0, 2, 2, 5, 5),
	}
	for i, a := range sets {
		for k, b := range sets {
			same(t, runs.Of(a...), runs.Of(b...), i == k)
		}
		s := runs.Of(a...)
		same(t, s, s, true)
		same(t, s, s.Copy(), true)
		if s.Same(nil) != (len(a) == 0) {
			t.Errorf("%v.Same(nil) = %t", a, s.Same(nil))
		}
		s.Add(-32768, 32767)
		same(t, s, runs.Of(pairs[int16](-32768, 32767)...), true)
		s.Remove(-32768, 32767)
		same(t, s, runs.New[int16](), true)
		if !s.Same(nil) {
			t.Error("a set out of which all is taken is not as a nil one")
		}
		for _, r := range slices.Backward(a) {
			s.Add(r.Lo, r.Hi)
		}
		same(t, s, runs.Of(a...), true)
	}
}

func TestP5_6OneForm(t *testing.T) { each(t, kind.oneForm) }

// oneForm makes sets of the same numbers in other ways.
func (o of[T]) oneForm(t *testing.T) {
	r := draw.Numbers(56)
	for range 200 {
		var l []runs.Run[T]
		for range r.Below(6) {
			l = append(l, o.someRun(&r))
		}
		s := runs.Of(l...)
		want := s.Runs()
		o.fewest(t, want)
		cut := o.otherwise(&r, want)
		u := runs.Of(cut...)
		checkRuns(t, u, want)
		same(t, s, u, true)
		v := runs.New[T]()
		for _, x := range cut {
			v.Add(x.Lo, x.Hi)
		}
		checkRuns(t, v, want)
		same(t, s, v, true)
		w := runs.Of(pairs(o.least, o.greatest)...)
		gaps := runs.Of(pairs(o.least, o.greatest)...)
		for _, x := range cut {
			gaps.Remove(x.Lo, x.Hi)
		}
		for _, x := range o.otherwise(&r, gaps.Runs()) {
			w.Remove(x.Lo, x.Hi)
		}
		checkRuns(t, w, want)
		same(t, s, w, true)
		o.together(t, &r, s)
		other := runs.Of(o.someRun(&r), o.someRun(&r))
		same(t, s, other, slices.Equal(s.Runs(), other.Runs()))
	}
}

// fewest tells whether runs are the runs of a set.
func (o of[T]) fewest(t *testing.T, l []runs.Run[T]) {
	t.Helper()
	for i, x := range l {
		if x.Lo > x.Hi || i > 0 && (l[i-1].Hi >= x.Lo || x.Lo-l[i-1].Hi == 1) {
			t.Fatalf("Runs() = %v, which are not rising, or not the fewest", l)
		}
	}
}

// otherwise is the same numbers in other runs and in another order.
func (o of[T]) otherwise(r *draw.Numbers, l []runs.Run[T]) []runs.Run[T] {
	var m []runs.Run[T]
	for _, x := range l {
		k := min(max(o.some(r), x.Lo), x.Hi)
		switch {
		case k < x.Hi: // in two parts, and a piece once more
			m = append(m, runs.Run[T]{Lo: x.Lo, Hi: k}, runs.Run[T]{Lo: k + 1, Hi: x.Hi}, runs.Run[T]{Lo: k, Hi: x.Hi})
		default: // all of it twice, and its last number
			m = append(m, x, runs.Run[T]{Lo: k, Hi: k}, x)
		}
		m = append(m, runs.Run[T]{Lo: o.greatest, Hi: o.least + T(r.Below(5))})
	}
	shuffle(r, m)
	return m
}

// together tells whether what Add of a run answers, and what Remove of it from a
// Copy made ahead of it answers, are as many as the run has.
func (o of[T]) together(t *testing.T, r *draw.Numbers, s *runs.Set[T]) {
	t.Helper()
	for range 5 {
		x, ahead := o.someRun(r), s.Runs()
		u := s.Copy()
		added := s.Add(x.Lo, x.Hi)
		removed := u.Remove(x.Lo, x.Hi)
		all := size([]runs.Run[T]{x})
		if all.IsInt64() && all.Cmp(new(big.Int).Add(big.NewInt(int64(added)), big.NewInt(int64(removed)))) != 0 {
			t.Fatalf("%v: Add(%d, %d) = %d, and Remove from a Copy = %d", ahead, x.Lo, x.Hi, added, removed)
		}
		o.fewest(t, s.Runs())
		o.fewest(t, u.Runs())
	}
}
