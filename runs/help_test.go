package runs_test

import (
	"fmt"
	"iter"
	"math/big"
	"slices"
	"testing"

	"coppice/draw"
	"coppice/runs"
)

// The calls have just these types.
var (
	_ func(...int8) *runs.Set[int8]               = runs.New[int8]
	_ func(...runs.Run[int8]) *runs.Set[int8]     = runs.Of[int8]
	_ func(*runs.Set[int8], int8, int8) int       = (*runs.Set[int8]).Add
	_ func(*runs.Set[int8], int8, int8) int       = (*runs.Set[int8]).Remove
	_ func(*runs.Set[int8], int8) bool            = (*runs.Set[int8]).Has
	_ func(*runs.Set[int8]) int                   = (*runs.Set[int8]).Len
	_ func(*runs.Set[int8]) (int8, bool)          = (*runs.Set[int8]).Lowest
	_ func(*runs.Set[int8]) []runs.Run[int8]      = (*runs.Set[int8]).Runs
	_ func(*runs.Set[int8]) iter.Seq[int8]        = (*runs.Set[int8]).All
	_ func(*runs.Set[int8]) *runs.Set[int8]       = (*runs.Set[int8]).Copy
	_ func(*runs.Set[int8], *runs.Set[int8]) bool = (*runs.Set[int8]).Same
	_                                             = runs.Run[uint32]{Lo: 1, Hi: 2}
)

// Types of one's own, with each of the types of numbers beneath.
type (
	myInt    int
	myInt8   int8
	myInt16  int16
	myUint8  uint8
	myUint16 uint16
	myUint32 uint32
)

// of is the numbers of T.
type of[T runs.Whole] struct{ least, greatest T }

// kind is what is tested in the same way for each type of numbers.
type kind interface {
	String() string
	nothing(*testing.T)
	newAndOf(*testing.T)
	ends(*testing.T)
	smallSets(*testing.T)
	scripts(*testing.T)
	walks(*testing.T)
	copies(*testing.T)
	oneForm(*testing.T)
	memory(*testing.T)
}

func (o of[T]) String() string { return fmt.Sprintf("%T", o.least) }

func kinds() []kind {
	return []kind{
		of[int]{-9223372036854775808, 9223372036854775807}, of[myInt]{-9223372036854775808, 9223372036854775807},
		of[int8]{-128, 127}, of[myInt8]{-128, 127},
		of[int16]{-32768, 32767}, of[myInt16]{-32768, 32767},
		of[uint8]{0, 255}, of[myUint8]{0, 255},
		of[uint16]{0, 65535}, of[myUint16]{0, 65535},
		of[uint32]{0, 4294967295}, of[myUint32]{0, 4294967295},
	}
}

// each runs a test for each type of numbers.
func each(t *testing.T, test func(kind, *testing.T)) {
	for _, k := range kinds() {
		t.Run(k.String(), func(t *testing.T) { test(k, t) })
	}
}

// pairs is these runs, their ends one behind the other.
func pairs[T runs.Whole](ends ...T) []runs.Run[T] {
	l := []runs.Run[T]{}
	for i := 0; i+1 < len(ends); i += 2 {
		l = append(l, runs.Run[T]{Lo: ends[i], Hi: ends[i+1]})
	}
	return l
}

// middle is a number far from both ends.
func (o of[T]) middle() T { return o.least/2 + o.greatest/2 }

// some is a number near an end or near the middle, and now and then any number:
// few come often, so that runs touch and lie over one another.
func (o of[T]) some(r *draw.Numbers) T {
	d := T(r.Below(9))
	switch r.Below(10) {
	case 0, 1, 2:
		return o.least + d
	case 3, 4, 5:
		return o.greatest - d
	case 6, 7, 8:
		return o.middle() + d
	}
	return T(r.Next())
}

// someRun is a run whose Lo is above its Hi now and then; a short one often.
func (o of[T]) someRun(r *draw.Numbers) runs.Run[T] {
	x := runs.Run[T]{Lo: o.some(r), Hi: o.some(r)}
	switch r.Below(8) {
	case 0:
	case 1, 2, 3:
		x.Hi = x.Lo + min(T(r.Below(4)), o.greatest-max(x.Lo, 0))
	default:
		x = runs.Run[T]{Lo: min(x.Lo, x.Hi), Hi: max(x.Lo, x.Hi)}
	}
	return x
}

// step is an Add or a Remove of a run.
type step[T runs.Whole] struct {
	run runs.Run[T]
	in  bool
}

// model is a set as the steps that made it: whether a number is there, the last
// step says that has it in its run.
type model[T runs.Whole] struct {
	of[T]
	steps []step[T]
}

// modelOf is a set of runs.
func modelOf[T runs.Whole](o of[T], l []runs.Run[T]) *model[T] {
	m := &model[T]{of: o}
	for _, r := range l {
		m.steps = append(m.steps, step[T]{r, true})
	}
	return m
}

func (m *model[T]) has(x T) bool {
	for _, s := range slices.Backward(m.steps) {
		if s.run.Lo <= x && x <= s.run.Hi {
			return s.in
		}
	}
	return false
}

// pieces is the run from lo to hi, cut where a step's run begins or ends: of each
// piece all numbers are in the set, or none is.
func (m *model[T]) pieces(lo, hi T) []runs.Run[T] {
	if lo > hi {
		return nil
	}
	begins := []T{lo}
	for _, s := range m.steps {
		begins = append(begins, s.run.Lo)
		if s.run.Hi < hi {
			begins = append(begins, s.run.Hi+1)
		}
	}
	begins = slices.DeleteFunc(begins, func(x T) bool { return x < lo || x > hi })
	slices.Sort(begins)
	begins = slices.Compact(begins)
	var l []runs.Run[T]
	for i, x := range begins {
		end := hi
		if i+1 < len(begins) {
			end = begins[i+1] - 1
		}
		l = append(l, runs.Run[T]{Lo: x, Hi: end})
	}
	return l
}

// size is how many numbers the runs have, one behind the other.
func size[T runs.Whole](l []runs.Run[T]) *big.Int {
	n := new(big.Int)
	for _, r := range l {
		if r.Lo <= r.Hi {
			n.Add(n, big.NewInt(int64(r.Hi)))
			n.Sub(n, big.NewInt(int64(r.Lo)))
			n.Add(n, big.NewInt(1))
		}
	}
	return n
}

// told is how many, as the chapter tells it.
func told(n *big.Int) int {
	if n.IsInt64() {
		return int(n.Int64())
	}
	return 9223372036854775807
}

// count is how many numbers from lo to hi are in the set, or how many are not.
func (m *model[T]) count(lo, hi T, in bool) int {
	l := slices.DeleteFunc(m.pieces(lo, hi), func(r runs.Run[T]) bool { return m.has(r.Lo) != in })
	return told(size(l))
}

func (m *model[T]) runs() []runs.Run[T] {
	var l []runs.Run[T]
	open := false
	for _, r := range m.pieces(m.least, m.greatest) {
		switch in := m.has(r.Lo); {
		case in && open:
			l[len(l)-1].Hi = r.Hi
		case in:
			l, open = append(l, r), true
		default:
			open = false
		}
	}
	return l
}

// do is the step done to the set and to the model, the answers held against each
// other.
func (m *model[T]) do(t *testing.T, s *runs.Set[T], x step[T]) {
	t.Helper()
	want := m.count(x.run.Lo, x.run.Hi, !x.in)
	before := s.Runs()
	call, name := s.Remove, "Remove"
	if x.in {
		call, name = s.Add, "Add"
	}
	if n := call(x.run.Lo, x.run.Hi); n != want {
		t.Fatalf("%v.%s(%d, %d) = %d, want %d", before, name, x.run.Lo, x.run.Hi, n, want)
	}
	m.steps = append(m.steps, x)
	m.check(t, s)
}

// check holds what the set answers against the model.
func (m *model[T]) check(t *testing.T, s *runs.Set[T]) {
	t.Helper()
	want := m.runs()
	checkRuns(t, s, want)
	for _, r := range m.pieces(m.least, m.greatest) {
		for _, x := range []T{r.Lo, r.Hi, r.Lo/2 + r.Hi/2} {
			if s.Has(x) != m.has(x) {
				t.Fatalf("%v.Has(%d) = %t", want, x, s.Has(x))
			}
		}
	}
}

// checkRuns holds what the set answers against its runs.
func checkRuns[T runs.Whole](t *testing.T, s *runs.Set[T], want []runs.Run[T]) {
	t.Helper()
	if l := s.Runs(); !slices.Equal(l, want) {
		t.Fatalf("Runs() = %v, want %v", l, want)
	}
	if n := told(size(want)); s.Len() != n {
		t.Fatalf("%v.Len() = %d, want %d", want, s.Len(), n)
	}
	var lowest T
	if len(want) > 0 {
		lowest = want[0].Lo
	}
	if x, is := s.Lowest(); x != lowest || is != (len(want) > 0) {
		t.Fatalf("%v.Lowest() = %d, %t", want, x, is)
	}
	if l, first := firstOf(s.All(), 20), numbers(want, 20); !slices.Equal(l, first) {
		t.Fatalf("%v.All() begins with %v, want %v", want, l, first)
	}
}

// numbers is the first numbers of the runs, which rise and lie apart.
func numbers[T runs.Whole](l []runs.Run[T], most int) []T {
	var all []T
	for _, r := range l {
		x := r.Lo
		for len(all) < most {
			all = append(all, x)
			if x == r.Hi {
				break
			}
			x++
		}
	}
	return all
}

// firstOf is what a walk tells first; it is left then.
func firstOf[T runs.Whole](walk iter.Seq[T], most int) []T {
	var all []T
	for x := range walk {
		all = append(all, x)
		if len(all) == most {
			break
		}
	}
	return all
}

// shuffle brings a list into an order that looks like no rule.
func shuffle[E any](r *draw.Numbers, l []E) {
	for i := range l {
		k := i + r.Below(len(l)-i)
		l[i], l[k] = l[k], l[i]
	}
}

// turns calls back with each order of the list.
func turns[E any](l []E, from int, tell func([]E)) {
	if from == len(l) {
		tell(l)
	}
	for i := from; i < len(l); i++ {
		l[from], l[i] = l[i], l[from]
		turns(l, from+1, tell)
		l[from], l[i] = l[i], l[from]
	}
}

// same asks both of two sets whether they are Same.
func same[T runs.Whole](t *testing.T, a, b *runs.Set[T], want bool) {
	t.Helper()
	if a.Same(b) != want || b.Same(a) != want {
		t.Fatalf("%v.Same(%v) = %t, the other way round %t", a.Runs(), b.Runs(), a.Same(b), b.Same(a))
	}
}
