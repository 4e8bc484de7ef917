package runs

import (
	"iter"
	"math"
	"sort"
)

// before is the number below x; x, if it is the least one: the number wraps round
// to the greatest one there.
func before[T Whole](x T) T { return min(x, x-1) }

// behind is the number above x; x, if it is the greatest one.
func behind[T Whole](x T) T { return max(x, x+1) }

// meeting is which runs of the set have a number from lo to hi: those from the
// first answer on and below the second. lo is not above hi.
func (s *Set[T]) meeting(lo, hi T) (int, int) {
	from := sort.Search(len(s.runs), func(i int) bool { return s.runs[i].Hi >= lo })
	to := sort.Search(len(s.runs), func(i int) bool { return s.runs[i].Lo > hi })
	return from, to
}

// parts goes over the runs of the set, as far as they lie from lo to hi, rising.
// lo is not above hi.
func (s *Set[T]) parts(lo, hi T) iter.Seq[Run[T]] {
	return func(yield func(Run[T]) bool) {
		from, to := s.meeting(lo, hi)
		for _, r := range s.runs[from:to] {
			if !yield(Run[T]{max(lo, r.Lo), min(hi, r.Hi)}) {
				return
			}
		}
	}
}

// gaps goes over what lies from lo to hi and is not in the set, in runs, rising.
// lo is not above hi.
func (s *Set[T]) gaps(lo, hi T) iter.Seq[Run[T]] {
	return func(yield func(Run[T]) bool) {
		from := lo
		for r := range s.parts(lo, hi) {
			if from < r.Lo && !yield(Run[T]{from, r.Lo - 1}) {
				return
			}
			// Behind hi there may be no number at which to go on.
			if r.Hi == hi {
				return
			}
			from = r.Hi + 1
		}
		yield(Run[T]{from, hi})
	}
}

// howMany is how many numbers these runs have together, none of which is without
// any or shares one with another; at most what an int can tell.
func howMany[T Whole](l iter.Seq[Run[T]]) int {
	n := 0
	for r := range l {
		// Wrapped round, the difference is right for numbers below 0 too. It is
		// one less than how many there are, since that of all ints is too great.
		more := uint64(r.Hi) - uint64(r.Lo)
		if more >= uint64(math.MaxInt-n) {
			return math.MaxInt
		}
		n += int(more) + 1
	}
	return n
}

// leftOf is what is left of these runs without the numbers from lo to hi, of
// which each of them has some.
func leftOf[T Whole](l []Run[T], lo, hi T) []Run[T] {
	var left []Run[T]
	if len(l) == 0 {
		return left
	}
	if first := l[0]; first.Lo < lo {
		left = append(left, Run[T]{first.Lo, lo - 1})
	}
	if last := l[len(l)-1]; last.Hi > hi {
		left = append(left, Run[T]{hi + 1, last.Hi})
	}
	return left
}

// eachOf hands the numbers of a run, which has some, to yield, till that says
// false: whether it never did. (A loop up to below the number behind Hi would not
// do, as there may be none.)
func eachOf[T Whole](r Run[T], yield func(T) bool) bool {
	for x := r.Lo; yield(x); x++ {
		if x == r.Hi {
			return true
		}
	}
	return false
}
