package fork_test

import (
	"fmt"
	"slices"
	"testing"

	"coppice/api"
	"coppice/draw"
	"coppice/fork"
	"coppice/view"
)

// spare is how many trees fit behind a roomy list, each of them this one.
const spare = 20

var mark = tree(-7, -8, -9)

// roomy is the list with spare room behind it, all of it marked.
func roomy(l []api.Tree) []api.Tree {
	return append(slices.Clone(l), slices.Repeat([]api.Tree{mark}, spare)...)[:len(l)]
}

// untouched: are a roomy list and its spare room as they were?
func untouched(l, was []api.Tree) bool {
	return slices.Equal(l, was) && slices.Equal(l[len(l):len(l)+spare], slices.Repeat([]api.Tree{mark}, spare))
}

// turn writes over all of a list, its spare room too.
func turn(l []int) {
	l = l[:cap(l)]
	for k := range l {
		l[k] = -1 - k
	}
}

// What is handed in is neither changed nor kept, its spare room included; what is
// answered is new memory each time, which hangs on nothing but the trees.
func TestP17_6Memory(t *testing.T) {
	t.Parallel()
	r := draw.Numbers(341)
	for round := range 120 {
		w := someWood(t, &r, 1+round%3)
		l := append(slices.Clone(w.trees), empty)
		x := l[0]
		before := view.Vault(w.v)
		for _, call := range []struct {
			name string
			do   func(l ...api.Tree) ([]int, api.Errno)
		}{
			{"Counts", func(l ...api.Tree) ([]int, api.Errno) { return fork.Counts(w.v, l...) }},
			{"Only", func(l ...api.Tree) ([]int, api.Errno) { return fork.Only(w.v, x, l...) }},
			{"Only of the first", func(l ...api.Tree) ([]int, api.Errno) { return fork.Only(w.v, l[0], l[1:]...) }},
			{"Reach", func(l ...api.Tree) ([]int, api.Errno) { return fork.Reach(w.v, l[0]) }},
		} {
			given := roomy(l)
			first, e := call.do(given...)
			equal(t, call.name, e, 0)
			equal(t, call.name+": what was handed in", untouched(given, l), true)
			was := slices.Clone(first)
			for k := range given[:cap(given)] {
				given[:cap(given)][k] = tree(1, 1, 1)
			}
			equalLists(t, call.name+": what is kept", first, was)
			second, e := call.do(slices.Clip(l)...)
			equal(t, call.name, e, 0)
			equalLists(t, call.name+" without spare room", second, was)
			turn(first)
			equalLists(t, call.name+": another answer", second, was)
			third, _ := call.do(l...)
			equalLists(t, call.name+": behind writing over an answer", third, was)
			equal(t, call.name+": the vault", view.Vault(w.v), before)
			turn(second)
			turn(third)
			equal(t, call.name+": the vault behind writing over answers", view.Vault(w.v), before)
			w.right(t, call.name)
		}
	}
}

// nil and an empty list are the same, and so is none at all.
func TestR3Lists(t *testing.T) {
	given, pages, l := threeTrees()
	v := lay(t, 2, 1, given, pages...)
	for _, none := range [][]api.Tree{nil, {}, roomy(nil)} {
		equalLists(t, "Counts", counts(t, v, none...), make([]int, v.Len()))
		equalLists(t, "Only", only(t, v, l[0], none...), reach(t, v, l[0]))
		equalLists(t, "Only of the empty tree", only(t, v, empty, none...), nil)
		equal(t, "the spare room", untouched(roomy(none), nil), true)
	}
}

// Two vaults with the same in them are told of alike, each time anew.
func TestR5TheSame(t *testing.T) {
	t.Parallel()
	r := draw.Numbers(342)
	for round := range 40 {
		w := someWood(t, &r, 1+round%3)
		text := func() string {
			s := fmt.Sprint(fork.Counts(w.v, w.trees...))
			for k, x := range w.trees {
				s += fmt.Sprint(fork.Reach(w.v, x))
				s += fmt.Sprint(fork.Only(w.v, x, w.without(k)...))
				s += fmt.Sprint(fork.Freed(w.v, x))
			}
			return s
		}
		first := text()
		for range 3 {
			equal(t, "told once more", text(), first)
		}
		w.v.Settle()
		equal(t, "told behind a Settle", text(), first)
	}
}
