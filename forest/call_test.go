package forest_test

import (
	"fmt"
	"iter"
	"strings"

	"coppice/api"
	"coppice/forest"
)

// called is what can be asked of a forest, and of its model.
type called interface {
	Plant() (int, api.Errno)
	Clone(id int) (int, api.Errno)
	Drop(id int) api.Errno
	Put(id int, key, value []byte) (bool, api.Errno)
	Delete(id int, key []byte) (bool, api.Errno)
	Trim(id int, r api.Range) (int, api.Errno)
	Get(id int, key []byte) ([]byte, bool, api.Errno)
	Scan(id int, r api.Range) (iter.Seq2[[]byte, []byte], api.Errno)
	List(id int, r api.Range) ([]api.Pair, api.Errno)
	Swap(a, b int) api.Errno
	All(do func() api.Errno) api.Errno
	Commit() api.Errno
	Roots() []api.Root
	Super() api.Super
	Tally(state int) int
	Counts() []int
	Diff(a, b int, r api.Range) ([]api.Change, api.Errno)
	Merge(base, ours, theirs, rule int) ([]api.Conflict, api.Errno)
	Reach(id int) ([]int, api.Errno)
	Check() (api.Report, api.Errno)
	Dead() bool
}

var (
	_ called = (*forest.Forest)(nil)
	_ called = (*plain)(nil)
)

// call is a call with its arguments.
type call struct {
	name       string
	a, b, c    int // ids
	key, value []byte
	r          api.Range
	rule       int
	do         []call    // of All, one behind the other
	ends       api.Errno // what do answers
	isNil      bool      // do is nil
}

// on is what a call answers, as a text, and its error.
func (c call) on(f called) (string, api.Errno) {
	var told []any
	var e api.Errno
	one := func(x any, err api.Errno) { told, e = []any{x}, err }
	switch c.name {
	case "Plant":
		one(f.Plant())
	case "Clone":
		one(f.Clone(c.a))
	case "Drop":
		e = f.Drop(c.a)
	case "Put":
		one(f.Put(c.a, c.key, c.value))
	case "Delete":
		one(f.Delete(c.a, c.key))
	case "Trim":
		one(f.Trim(c.a, c.r))
	case "Get":
		v, has, err := f.Get(c.a, c.key)
		one(fmt.Sprintf("%x %v", v, has), err)
	case "Scan":
		walk, err := f.Scan(c.a, c.r)
		if err == 0 {
			told = append(told, toldWalk(walk))
		} else {
			told = append(told, walk == nil)
		}
		e = err
	case "List":
		l, err := f.List(c.a, c.r)
		one(toldPairs(l), err)
	case "Swap":
		e = f.Swap(c.a, c.b)
	case "Commit":
		e = f.Commit()
	case "Diff":
		l, err := f.Diff(c.a, c.b, c.r)
		one(toldChanges(l), err)
	case "Merge":
		l, err := f.Merge(c.a, c.b, c.c, c.rule)
		one(toldConflicts(l), err)
	case "Reach":
		l, err := f.Reach(c.a)
		one(fmt.Sprint(l), err)
	case "Check":
		x, err := f.Check()
		one(fmt.Sprintf("%+v", x), err)
	case "All":
		return c.all(f)
	}
	return strings.TrimSpace(fmt.Sprint(append(told, " error ", int(e))...)), e
}

// all is what an All answers, with what its do was answered.
func (c call) all(f called) (string, api.Errno) {
	text := ""
	do := func() api.Errno {
		for _, x := range c.do {
			s, _ := x.on(f)
			text += x.name + " " + s + "; "
		}
		return c.ends
	}
	if c.isNil {
		do = nil
	}
	e := f.All(do)
	return fmt.Sprint("(", text, ") error ", int(e)), e
}

// toldChanges is changes as a text.
func toldChanges(l []api.Change) string {
	var text strings.Builder
	for _, x := range l {
		fmt.Fprintf(&text, " %d %x %x %x", x.Kind, x.Key, x.Old, x.New)
	}
	return text.String()
}

// toldConflicts is conflicts as a text.
func toldConflicts(l []api.Conflict) string {
	var text strings.Builder
	for _, x := range l {
		fmt.Fprintf(&text, " %x %x %x %x %v", x.Key, x.Base, x.Ours, x.Theirs, x.Has)
	}
	return text.String()
}

// state is all that a forest tells of itself, as a text.
func state(f called) string {
	var tallies []int
	for _, state := range []int{lowest, -1, 0, free, pending, fresh, held, 5, 1<<32 + 1, greatest} {
		tallies = append(tallies, f.Tally(state))
	}
	return fmt.Sprint(f.Dead(), told(f.Super()), f.Roots(), tallies, f.Counts())
}

// whole is all that a forest tells: of itself, and of each tree.
func whole(f called) string {
	var text strings.Builder
	text.WriteString(state(f))
	if f.Dead() {
		return text.String()
	}
	for _, r := range f.Roots() {
		l, e := f.List(r.Id, allKeys)
		pages, e2 := f.Reach(r.Id)
		fmt.Fprint(&text, r.Id, toldPairs(l), int(e), pages, int(e2))
	}
	report, e := f.Check()
	fmt.Fprintf(&text, "%+v %d", report, int(e))
	return text.String()
}
